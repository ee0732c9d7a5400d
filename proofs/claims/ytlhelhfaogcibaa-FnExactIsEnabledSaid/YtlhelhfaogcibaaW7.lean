/-
  WALKS: lists of texts compared, marked and held (laws.eqStringS, equalTexts, markText, markStringS, heldStringS).
-/
import Derived.Test.YtlhelhfaogcibaaW6
import Derived.Deep.RegionWith
namespace Go.Proofs.Ytlhelhfaogcibaa
open Go.RowKit Nm
set_option linter.unusedSimpArgs false
set_option linter.unusedVariables false

def digitOf (m : Nat) : UInt8 := UInt8.ofNat (48 + m % 10)
def digitsF : Nat → Nat → List UInt8 → List UInt8
  | 0, _, acc => acc
  | f + 1, m, acc => if m = 0 then acc else digitsF f (m / 10) (digitOf m :: acc)
/-- the text of a mark -/
def mt (k : Nat) : List UInt8 := if k = 0 then [109, 48] else 109 :: digitsF 20 k []

theorem digit_val (m : Nat) : ((digitOf m).toNat : Int) = 48 + (m : Int) % 10 := by
  have : 48 + m % 10 < 256 := by omega
  unfold digitOf
  rw [UInt8.toNat_ofNat_of_lt' this]; omega

set_option maxHeartbeats 2000000 in
set_option maxRecDepth 100000 in
theorem markText_c (k : Nat) (w : World) (hk : k ≤ 1099511627776) :
    Calls Try.prog 50 #[.int .i64 k] w fun e w' => e = .returned (txt (mt k)) ∧ Below w.heap.size w w' := by
  by_cases h0 : k = 0
  · subst h0
    go_enter Try.func50, Try.ntmps50
    go_wp2_with fail
    go_ret
    exact ⟨rfl, Below.refl _ _⟩
  have hpos : ¬ ((k : Int) ≤ 0) := by omega
  have hcv : ∀ (W : World) (m : Nat), (convert 98 9 (.slice (some ⟨W.heap.size, 0, none⟩) 1 1)).run Try.prog (W.alloc (.cells #[.int .u8 (48 + (m : Int) % 10)] 5)) = .ok (.string ⟨#[digitOf m]⟩) (W.alloc (.cells #[.int .u8 (48 + (m : Int) % 10)] 5)) := by
    intro W m
    refine run_convert_bytes_back _ _ _ _ _ 1 [digitOf m] Try.underlying98 Try.underlying5 Try.underlying9 ?_
    intro j hj
    obtain rfl : j = 0 := by simpa using hj
    have := one_new W (.int .u8 (48 + (m : Int) % 10)) 5 0 _ rfl
    rw [this]
    simp only [List.getElem_cons_zero, digit_val]
  have HK := hid (show k ≠ 0 from h0)
  have hinit := hid (show k < 10 ^ 20 by omega)
  clear h0
  go_enter Try.func50, Try.ntmps50
  go_wp2_with fail
  go_loopg [0, 3] 20 (fun g kv out wr => ∃ (m : Nat) (x : ByteArray), kv = .int .i64 m ∧ out = .string x ∧ m ≤ k ∧ Hid (m < 10 ^ g) ∧ Hid (digitsF g m x.data.toList = digitsF 20 k []) ∧ x.size + g ≤ 20 ∧ Below w.heap.size w wr)
  case atStart => exact ⟨k, ByteArray.empty, rfl, rfl, Nat.le_refl _, hinit, rfl, Nat.le_refl _, Below.refl _ _⟩
  case round =>
    obtain ⟨m, x, rfl, rfl, hmk, HM, HD, hxs, hb⟩ := hrel
    by_cases hm : 0 < m
    · obtain ⟨g, rfl⟩ : ∃ g, gk = g + 1 := by
        cases gk with
        | zero => have := HM.out; simp at this; omega
        | succ g => exact ⟨g, rfl⟩
      have H1 := hid (show m / 10 < 10 ^ g by have := HM.out; rw [Nat.pow_succ] at this; omega)
      have H2 := hid (show digitsF g (m / 10) (digitOf m :: x.data.toList) = digitsF 20 k [] by
        rw [← HD.out]; simp only [digitsF]; rw [if_neg (by omega)])
      go_wp2_with fail
      go_roundg g
      case measure => omega
      case rel =>
        refine ⟨m / 10, ⟨#[digitOf m]⟩ ++ x, by go_num, rfl, by omega, H1, ?_, ?_, hb.alloc hb.size _⟩
        · rw [show (⟨#[digitOf m]⟩ ++ x : ByteArray).data.toList = digitOf m :: x.data.toList by simp]
          exact H2
        · have : (⟨#[digitOf m]⟩ : ByteArray).size = 1 := rfl
          rw [ByteArray.size_append]; omega
    · obtain rfl : m = 0 := by omega
      have HE := hid (show txt (mt k) = .string (⟨#[109]⟩ ++ x) by
        have h := HD.out
        have h' : digitsF gk 0 x.data.toList = x.data.toList := by cases gk <;> simp [digitsF]
        rw [h'] at h
        unfold mt
        rw [if_neg HK.out, ← h]
        simp only [txt, Value.string.injEq]
        refine (bytes_eq_iff _ _).1 ?_
        simp)
      have hs1 : (⟨#[109]⟩ : ByteArray).size = 1 := rfl
      go_wp2_with fail
      go_ret
      exact ⟨by rw [HE.out]; rfl, hb⟩

/-- the first n cells are the marks from k on -/
def Marked (xs : List Value) (k n : Nat) : Prop := ∀ j, j < n → xs[j]? = some (txt (mt (k + j)))

set_option maxHeartbeats 2000000 in
set_option maxRecDepth 100000 in
theorem markStrs_c (v : Value) (n base k : Nat) (xs : List Value) (w : World) (hv : w.ownsRow base 9 1 v n xs) (hn : n + k ≤ 1099511627776) :
    Calls Try.prog 20 #[v, .int .i64 k] w fun e w' => e = .returned (.int .i64 ((k + n : Nat) : Int)) ∧ (∃ ys, w'.ownsRow base 9 1 v n ys ∧ Marked ys k n) ∧ w.grownBy w' v.ownBlock := by
  obtain ⟨A, c, rfl, hnc, hcm⟩ := (Sl.of_own hv).form
  have HV := hid hv
  clear hv
  go_enter Try.func20, Try.ntmps20
  go_wp2_with fail
  go_loopw [1, 5] (fun kv iv wr => ∃ (i : Nat) (ys : List Value), kv = .int .i64 ((k + i : Nat) : Int) ∧ iv = .int .i64 i ∧ i ≤ n ∧ wr.ownsRow base 9 1 (.slice A n c) n ys ∧ Marked ys k i ∧ w.grownBy wr (Value.slice A n c).ownBlock) (fun _ iv _ => n - (intOf iv).toNat)
  case atStart => exact ⟨0, xs, rfl, rfl, Nat.zero_le _, HV.out, fun j hj => absurd hj (by omega), World.grownBy.refl _ _⟩
  case round =>
    obtain ⟨i, ys, rfl, rfl, hi, hown, hM, hg⟩ := hrel
    have hcall := fun W => markText_c (k + i) W (by omega)
    obtain ⟨x, hx1, hx2⟩ := txt_mk (mt (k + i))
    rw [hx1] at hcall
    have HC := hid hcall
    have HX := hid (And.intro hx1 hM)
    clear hcall hx1 hx2 hM
    by_cases hlt : i < n
    · rcases hown.2 with ⟨h1, h2⟩ | ⟨g, cap, cur, h1, hbg, hgb, _, _, hcs, _⟩
      · omega
      obtain ⟨rfl, rfl⟩ : A = some ⟨g, 0, none⟩ ∧ c = cap := by simpa using h1
      have hglt : g < wr.heap.size := (Array.getElem?_eq_some_iff.1 hgb).1
      have HO := hid hown
      clear hown h1 hgb
      go_wp2_with fail
      refine (HC.out _).mono ?_
      rintro e w1 ⟨rfl, hb1⟩
      have hown1 := own_below HO.out hb1
      have hcell : ∃ u, w1.cell? ⟨g, i, none⟩ = some u := ⟨_, (hown1.cellAt i (by omega)).trans (List.getElem?_eq_getElem (by have := hown1.1; omega))⟩
      obtain ⟨u, hcell⟩ := hcell
      have hfro := hown1.frozenAt i
      obtain ⟨hst, hsg⟩ := hown1.stored i (.string x)
      have HS := hid (And.intro hst hsg)
      clear hst hsg hown1
      go_wp2_with fail
      go_roundw
      case rel =>
        refine ⟨i + 1, _, by go_num, by go_num, by omega, HS.out.1, ?_, ?_⟩
        · intro j hj
          rw [List.getElem?_set]
          by_cases e : i = j
          · subst e
            rw [if_pos rfl, if_pos (by have := HO.out.1; omega), HX.out.1]
          · rw [if_neg e]; exact HX.out.2 j (by omega)
        · have h1 : wr.grownBy w1 (some g) := grown_of hb1 _
          have h2 := HS.out.2
          have h3 : w.grownBy wr (some g) := hg
          exact ⟨h2.os.trans (h1.os.trans h3.os), h2.tape.trans (h1.tape.trans h3.tape), h2.output.trans (h1.output.trans h3.output), Nat.le_trans h3.size (Nat.le_trans h1.size h2.size),
            fun q hq hne => (h2.block q (by have := h3.size; have := h1.size; omega) hne).trans ((h1.block q (by have := h3.size; omega) hne).trans (h3.block q hq hne))⟩
      case measure => simp [intOf]; omega
    · obtain rfl : i = n := by omega
      have HO := hid hown
      clear hown
      go_wp2_with fail
      go_ret
      exact ⟨ret_int (by simp), ⟨ys, HO.out, HX.out.2⟩, hg⟩

set_option maxHeartbeats 2000000 in
set_option maxRecDepth 100000 in
theorem heldStrs_c (v : Value) (n B k : Nat) (xs : List Value) (w : World) (hv : Sl w B 1 n v xs) (hB : B ≤ w.heap.size) (hM : Marked xs k n) (hn : n + k ≤ 1099511627776) :
    Calls Try.prog 21 #[v, .int .i64 k] w fun e w' => e = .returned (.int .i64 ((k + n : Nat) : Int)) ∧ Below w.heap.size w w' := by
  obtain ⟨A, c, rfl, hnc, hcm, hl, hA⟩ := hv.parts_
  have HA := hid (And.intro hA hM)
  clear hv hA hM
  go_enter Try.func21, Try.ntmps21
  go_wp2_with fail
  go_loopw [1, 5] (fun kv iv wr => ∃ (i : Nat), kv = .int .i64 ((k + i : Nat) : Int) ∧ iv = .int .i64 i ∧ i ≤ n ∧ Below w.heap.size w wr) (fun _ iv _ => n - (intOf iv).toNat)
  case atStart => exact ⟨0, rfl, rfl, Nat.zero_le _, Below.refl _ _⟩
  case round =>
    obtain ⟨i, rfl, rfl, hi, hb⟩ := hrel
    obtain ⟨hA, hM⟩ := HA.out
    by_cases hlt : i < n
    · obtain ⟨b, o, rfl, hbB, hcl⟩ := hA (by omega)
      obtain ⟨x, hx1, hx2⟩ := txt_mk (mt (k + i))
      have hc0 := hcl i _ (hM i hlt)
      rw [hx1] at hc0
      have hcw : wr.cell? ⟨b, o + i, none⟩ = some (.string x) := (hb.cell (p := ⟨b, o + i, none⟩) (by show b < _; omega)).trans hc0
      have hcall := fun W => markText_c (k + i) W (by omega)
      rw [hx1] at hcall
      have HC := hid hcall
      have hblt : b < wr.heap.size := by have := hb.size; omega
      have e1 := eq_true_of (a := x) (b := x) rfl
      clear hcall hx1 hx2 hcl hA hM hc0
      go_wp2_with fail
      go_region_with (go_at_call 50; refine (HC.out _).mono ?_; rintro e w1 ⟨rfl, hb1⟩; have hcw1 : w1.cell? ⟨b, o + i, none⟩ = some (.string x) := (hb1.cell (p := ⟨b, o + i, none⟩) hblt).trans hcw)
      all_goals go_wp2_with fail
      all_goals
        go_roundw
        case rel => exact ⟨i + 1, by go_num, by go_num, by omega, hb.drew.trans (hb1.mono hb.size)⟩
        case measure => simp [intOf]; omega
    · obtain rfl : i = n := by omega
      clear hA hM
      go_wp2_with fail
      go_ret
      exact ⟨ret_int (by simp), hb⟩

theorem lists_eq_len {x y : List (List UInt8)} (h : x = y) : x.length = y.length := by rw [h]
theorem take_all_eq {x y : List (List UInt8)} {n : Nat} (h : x.take n = y.take n) (hx : x.length = n) (hy : y.length = n) : x = y := by
  rw [List.take_of_length_le (by omega), List.take_of_length_le (by omega)] at h; exact h

set_option maxHeartbeats 2000000 in
set_option maxRecDepth 100000 in
theorem eqStrs_c (v1 v2 : Value) (n1 n2 B : Nat) (x y : List (List UInt8)) (w : World) (h1 : Sl w B 1 n1 v1 (x.map txt)) (h2 : Sl w B 1 n2 v2 (y.map txt)) (hB : B ≤ w.heap.size) :
    Calls Try.prog 18 #[v1, v2] w (BoolPost w (decide (x = y))) := by
  obtain ⟨A1, k1, rfl, _, hm1, hl1, _⟩ := h1.parts_
  obtain ⟨A2, k2, rfl, _, hm2, hl2, _⟩ := h2.parts_
  unfold maxLen at hm1 hm2
  simp only [List.length_map, Nat.mul_one] at hl1 hl2
  have HS := hid (And.intro h1 (And.intro h2 (And.intro hl1 hl2)))
  clear h1 h2
  by_cases hne : n1 = n2
  · subst hne
    have b0 : ((n1 : Int) != (n1 : Int)) = false := by simp
    clear hl1 hl2
    go_enter Try.func18, Try.ntmps18
    go_wp2_with fail
    go_loopw [5] (fun iv wr => ∃ (i : Nat), iv = .int .i64 i ∧ i ≤ n1 ∧ Hid (x.take i = y.take i) ∧ Hid (Below w.heap.size w wr)) (fun iv _ => n1 - (intOf iv).toNat)
    case atStart => exact ⟨0, rfl, by omega, by simp [Hid], Below.refl _ _⟩
    case round =>
      obtain ⟨i, rfl, hi, HT, HB⟩ := hrel
      obtain ⟨S1, S2, hl1, hl2⟩ := HS.out
      by_cases hlt : i < n1
      · obtain ⟨b1, o1, p, rfl, hb1, hp1, hc1⟩ := S1.text hlt
        obtain ⟨b2, o2, q, rfl, hb2, hq1, hc2⟩ := S2.text hlt
        have hcp : wr.cell? ⟨b1, o1 + i, none⟩ = some (.string p) := (HB.out.cell (p := ⟨b1, o1 + i, none⟩) (by show b1 < _; omega)).trans hc1
        have hcq : wr.cell? ⟨b2, o2 + i, none⟩ = some (.string q) := (HB.out.cell (p := ⟨b2, o2 + i, none⟩) (by show b2 < _; omega)).trans hc2
        clear hc1 hc2 S1 S2
        by_cases hpq : p.data.toList = q.data.toList
        · have e3 : (p.toList != q.toList) = false := by rw [bne, eq_true_of hpq]; rfl
          have e4 := eq_true_of hpq
          have HE := hid (take_eq_succ x y i HT.out (by rw [hp1, hq1, hpq]))
          clear hp1 hq1 hpq hl1 hl2
          go_wp2_with fail
          go_quiet (fail)
          go_wp2_with fail
          go_roundw
          case rel => exact ⟨i + 1, by go_num, by omega, HE, below_dr HB.out _⟩
          case measure => simp [intOf]; omega
        · have e3 : (p.toList != q.toList) = true := by rw [bne, eq_false_of hpq]; rfl
          have e4 := eq_false_of hpq
          have HE := hid (show decide (x = y) = false from decide_eq_false (fun h => by subst h; rw [hp1] at hq1; exact hpq (by simpa using hq1)))
          clear hp1 hq1 hpq hl1 hl2
          go_wp2_with fail
          go_quiet (fail)
          go_wp2_with fail
          go_ret
          exact ⟨ret_bool HE.out.symm, below_dr HB.out _⟩
      · have HE := hid (show decide (x = y) = true from decide_eq_true (take_all_eq (n := i) HT.out (by omega) (by omega)))
        clear hl1 hl2 S1 S2
        go_wp2_with fail
        go_ret
        exact ⟨ret_bool HE.out.symm, HB.out⟩
  · have b0 : ((n1 : Int) != (n2 : Int)) = true := by simp; omega
    have HE := hid (show decide (x = y) = false from decide_eq_false (fun h => hne (by have := lists_eq_len h; omega)))
    clear hl1 hl2
    go_enter Try.func18, Try.ntmps18
    go_wp2_with fail
    go_ret
    exact ⟨ret_bool HE.out.symm, Below.refl _ _⟩
end Go.Proofs.Ytlhelhfaogcibaa
