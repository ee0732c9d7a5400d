/-
  []int, told by its rows.
-/
import Derived.Test.YtaniaadmphojeaaDoorMarks
namespace Go.Proofs.YtaniaadmphojeaaDoor
open Go.RowKit Nm
set_option linter.unusedSimpArgs false
set_option linter.unusedVariables false

def vint (n : Int) : Value := .int .i64 n
abbrev IntL := List Int
def IntsR (rs : List Row) (v : Value) (l : IntL) : Prop := rs = [⟨3, 1, l.length, v, l.map vint⟩]
def IntsFit (l : IntL) : Prop := l.length ≤ maxTxt
def IntsIn (w : World) (B : Nat) (v : Value) (l : IntL) : Prop := Sl w B 1 l.length v (l.map vint) ∧ IntsFit l
def IntsM (rs : List Row) (v : Value) (k r : Nat) : Prop := ∃ (n : Nat) (xs : List Value), rs = [⟨3, 1, n, v, xs⟩] ∧ (∀ j, j < n → xs[j]? = some (vint ((k + j : Nat) : Int))) ∧ r = k + n ∧ n + k ≤ 17592186044416
section
variable {w w' : World} {B B' lo : Nat} {v : Value} {l : IntL} {rs rest : List Row}
theorem IntsIn.below (h : IntsIn w B v l) (hb : Below B' w w') (hB : B ≤ B') : IntsIn w' B v l := ⟨h.1.below hb hB, h.2⟩
theorem IntsIn.form (h : IntsIn w B v l) : ∃ A n c, v = .slice A n c := by obtain ⟨A, c, h1, _, _⟩ := h.1.form; exact ⟨A, _, c, h1⟩
theorem IntsR.at_ (h : IntsR rs v l) (hr : Rows w lo rs) (hf : IntsFit l) : IntsIn w w.heap.size v l := by
  subst h; exact ⟨Sl.of_own (show w.ownsRow _ _ 1 v _ _ from hr.head), hf⟩
theorem IntsR.form (h : IntsR rs v l) (hr : Rows w lo rs) : ∃ A n c, v = .slice A n c := by
  subst h; obtain ⟨A, c, h1, _, _⟩ := (Sl.of_own (show w.ownsRow _ _ 1 v _ _ from hr.head)).form; exact ⟨A, _, c, h1⟩
theorem IntsM.form {k r : Nat} (h : IntsM rs v k r) (hr : Rows w lo rs) : ∃ A n c, v = .slice A n c := by
  obtain ⟨n, xs, rfl, _⟩ := h; obtain ⟨A, c, h1, _, _⟩ := (Sl.of_own (show w.ownsRow _ _ 1 v _ _ from hr.head)).form; exact ⟨A, _, c, h1⟩
theorem IntsFit.nil : IntsFit [] := by simp [IntsFit, maxTxt]
end
/-- an element of a slice of ints -/
theorem Sl.int_at {w : World} {B n c k : Nat} {A : Option Addr} {l : IntL} (h : Sl w B 1 n (.slice A n c) (l.map vint)) (hk : k < n) :
    ∃ (b o : Nat) (x : Int), A = some ⟨b, o, none⟩ ∧ b < B ∧ l[k]? = some x ∧ w.cell? ⟨b, o + k, none⟩ = some (.int .i64 x) := by
  obtain ⟨b, o, e, hb, hc⟩ := sl_elem h hk
  have hl : l.length = n := by have := h.1; simpa using this
  obtain ⟨x, hx⟩ : ∃ x, l[k]? = some x := ⟨_, List.getElem?_eq_getElem (by omega)⟩
  refine ⟨b, o, x, e, hb, hx, ?_⟩
  have := hc 0 (vint x) (by simp [hx, vint])
  simpa [vint] using this

set_option maxHeartbeats 2000000 in
set_option maxRecDepth 100000 in
theorem eqIntsX_c {rs rs' : List Row} {v v' : Value} {l : IntL} {w : World} {lo lo' : Nat} (h : IntsR rs v l) (hr : Rows w lo rs) (h' : IntsR rs' v' l) (hr' : Rows w lo' rs') :
    Calls Tryd.prog 13 #[v, v'] w (BoolPost w true) := by
  subst h; subst h'
  have s1 : Sl w w.heap.size 1 l.length v (l.map vint) := Sl.of_own (show w.ownsRow _ _ 1 v _ _ from hr.head)
  have s2 : Sl w w.heap.size 1 l.length v' (l.map vint) := Sl.of_own (show w.ownsRow _ _ 1 v' _ _ from hr'.head)
  obtain ⟨A1, k1, rfl, _, hm1⟩ := s1.form
  obtain ⟨A2, k2, rfl, _, hm2⟩ := s2.form
  unfold maxLen at hm1 hm2
  clear hr hr'
  have HS := hid (And.intro s1 s2)
  generalize hn : l.length = n at *
  have b0 : ((n : Int) != (n : Int)) = false := by simp
  clear s1 s2
  go_enter Tryd.func13, Tryd.ntmps13
  go_wp2_with fail
  go_loopw [5] (fun iv wr => ∃ (i : Nat), iv = .int .i64 i ∧ i ≤ n ∧ Hid (Below w.heap.size w wr)) (fun iv _ => n - (intOf iv).toNat)
  case atStart => exact ⟨0, rfl, by omega, Below.refl _ _⟩
  case round =>
    obtain ⟨i, rfl, hi, HB⟩ := hrel
    by_cases hlt : i < n
    · obtain ⟨b, o, x, rfl, hbB, hx, g0⟩ := HS.out.1.int_at hlt
      obtain ⟨b', o', x', rfl, hbB', hx', g0'⟩ := HS.out.2.int_at hlt
      obtain rfl : x' = x := by rw [hx] at hx'; exact (Option.some.inj hx').symm
      replace g0 := (HB.out.cell (p := ⟨b, o + i, none⟩) hbB).trans g0
      replace g0' := (HB.out.cell (p := ⟨b', o' + i, none⟩) hbB').trans g0'
      have e3 : (x' != x') = false := by simp
      have e4 : (x' == x') = true := by simp
      clear hx hx'
      go_wp2_with fail
      go_quiet (fail)
      go_wp2_with fail
      go_roundw
      case rel => exact ⟨i + 1, by go_num, by omega, below_dr HB.out _⟩
      case measure => simp [intOf]; omega
    · go_wp2_with fail
      go_ret
      exact ⟨rfl, HB.out⟩

set_option maxHeartbeats 2000000 in
set_option maxRecDepth 100000 in
theorem markInts_c (v : Value) (n base k : Nat) (xs : List Value) (w : World) (hv : w.ownsRow base 3 1 v n xs) (hn : n + k ≤ 17592186044416) :
    Calls Tryd.prog 18 #[v, .int .i64 k] w fun e w' => e = .returned (.int .i64 ((k + n : Nat) : Int)) ∧ (∃ ys, w'.ownsRow base 3 1 v n ys ∧ ∀ j, j < n → ys[j]? = some (vint ((k + j : Nat) : Int))) ∧ w.grownBy w' v.ownBlock := by
  obtain ⟨A, c, rfl, hnc, hcm⟩ := (Sl.of_own hv).form
  unfold maxLen at hcm
  have HV := hid hv
  clear hv
  go_enter Tryd.func18, Tryd.ntmps18
  go_wp2_with fail
  go_loopw [1, 5] (fun kv iv wr => ∃ (i : Nat) (ys : List Value), kv = .int .i64 ((k + i : Nat) : Int) ∧ iv = .int .i64 i ∧ i ≤ n ∧ Hid (wr.ownsRow base 3 1 (.slice A n c) n ys) ∧ Hid (∀ j, j < i → ys[j]? = some (vint ((k + j : Nat) : Int))) ∧ Hid (w.grownBy wr (Value.slice A n c).ownBlock)) (fun _ iv _ => n - (intOf iv).toNat)
  case atStart => exact ⟨0, xs, rfl, rfl, Nat.zero_le _, HV.out, fun j hj => absurd hj (by omega), World.grownBy.refl _ _⟩
  case round =>
    obtain ⟨i, ys, rfl, rfl, hi, HO, HM, HG⟩ := hrel
    by_cases hlt : i < n
    · obtain ⟨g, rfl, hglt⟩ := own_some HO.out (by omega)
      have hcell : ∃ u, wr.cell? ⟨g, i, none⟩ = some u := ⟨_, (HO.out.cellAt i (by omega)).trans (List.getElem?_eq_getElem (by have := HO.out.1; omega))⟩
      obtain ⟨u, hcell⟩ := hcell
      have hfro := HO.out.frozenAt i
      obtain ⟨hst, hsg⟩ := HO.out.stored i (.int .i64 ((k + i : Nat) : Int))
      have HS := hid (And.intro hst hsg)
      have hki : ((k + i : Nat) : Int) = (k : Int) + (i : Int) := by simp
      clear hst hsg
      go_wp2_with fail
      go_roundw
      case rel =>
        refine ⟨i + 1, _, by go_num, by go_num, by omega, HS.out.1, ?_, ?_⟩
        · intro j hj
          rw [List.getElem?_set]
          by_cases e : i = j
          · subst e
            rw [if_pos rfl, if_pos (by have := HO.out.1; omega)]; rfl
          · rw [if_neg e]; exact HM.out j (by omega)
        · exact grown_tr HG.out HS.out.2
      case measure => simp [intOf]; omega
    · obtain rfl : i = n := by omega
      go_wp2_with fail
      go_ret
      exact ⟨ret_int (by simp), ⟨ys, HO.out, HM.out⟩, HG.out⟩

set_option maxHeartbeats 2000000 in
set_option maxRecDepth 100000 in
theorem heldInts_c (v : Value) (n B k : Nat) (xs : List Value) (w : World) (hv : Sl w B 1 n v xs) (hB : B ≤ w.heap.size) (hM : ∀ j, j < n → xs[j]? = some (vint ((k + j : Nat) : Int))) (hn : n + k ≤ 17592186044416) :
    Calls Tryd.prog 19 #[v, .int .i64 k] w fun e w' => e = .returned (.int .i64 ((k + n : Nat) : Int)) ∧ Below w.heap.size w w' := by
  obtain ⟨A, c, rfl, hnc, hcm, hl, hA⟩ := hv.parts_
  unfold maxLen at hcm
  have HA := hid (And.intro hA hM)
  clear hv hA hM
  go_enter Tryd.func19, Tryd.ntmps19
  go_wp2_with fail
  go_loopw [1, 5] (fun kv iv wr => ∃ (i : Nat), kv = .int .i64 ((k + i : Nat) : Int) ∧ iv = .int .i64 i ∧ i ≤ n ∧ Hid (Below w.heap.size w wr)) (fun _ iv _ => n - (intOf iv).toNat)
  case atStart => exact ⟨0, rfl, rfl, Nat.zero_le _, Below.refl _ _⟩
  case round =>
    obtain ⟨i, rfl, rfl, hi, HB⟩ := hrel
    by_cases hlt : i < n
    · obtain ⟨b, o, rfl, hbB, hcl⟩ := HA.out.1 (by omega)
      have hcw : wr.cell? ⟨b, o + i, none⟩ = some (.int .i64 ((k + i : Nat) : Int)) := (HB.out.cell (p := ⟨b, o + i, none⟩) (by show b < _; omega)).trans (hcl i _ (HA.out.2 i hlt))
      have e1 : (((k + i : Nat) : Int) != ((k + i : Nat) : Int)) = false := by simp
      have e2 : (((k + i : Nat) : Int) == ((k + i : Nat) : Int)) = true := by simp
      have hki : ((k + i : Nat) : Int) = (k : Int) + (i : Int) := by simp
      have e3 : (((k : Int) + (i : Int)) == ((k : Int) + (i : Int))) = true := by simp
      clear hcl
      go_wp2_with fail
      first
        | (go_quiet (fail)
           go_wp2_with fail
           go_roundw
           case rel => exact ⟨i + 1, by go_num, by go_num, by omega, below_dr HB.out _⟩
           case measure => simp [intOf]; omega)
        | (go_roundw
           case rel => exact ⟨i + 1, by go_num, by go_num, by omega, HB.out⟩
           case measure => simp [intOf]; omega)
    · obtain rfl : i = n := by omega
      go_wp2_with fail
      go_ret
      exact ⟨ret_int (by simp), HB.out⟩

theorem markIntsX_c {rs rest : List Row} {v : Value} {l : IntL} {w : World} {lo k : Nat} (h : IntsR rs v l) (hR : Rows w lo (rs ++ rest)) (hlo : lo ≤ w.heap.size) (hd : IntsFit l) (hk : k ≤ 17000000000000) :
    Calls Tryd.prog 18 #[v, .int .i64 k] w fun e w' => ∃ (r : Nat) (rs' : List Row), e = .returned (.int .i64 (r : Int)) ∧ IntsM rs' v k r ∧ Rows w' lo (rs' ++ rest) ∧ Below lo w w' ∧ r ≤ k + 8388608 := by
  subst h
  unfold IntsFit maxTxt at hd
  have ho : w.ownsRow lo 3 1 v l.length (l.map vint) := hR.left.head
  refine (markInts_c v l.length lo k _ w ho (by omega)).mono ?_
  rintro e w' ⟨rfl, ⟨ys, ho', hM⟩, hg⟩
  exact ⟨_, _, rfl, ⟨_, _, rfl, hM, rfl, by omega⟩, Rows.write1 hR hg ho', below_of_grown hg hlo (own_lt ho), by omega⟩
theorem heldIntsX_c {rs : List Row} {v : Value} {k r lo : Nat} {w : World} (h : IntsM rs v k r) (hR : Rows w lo rs) :
    Calls Tryd.prog 19 #[v, .int .i64 k] w fun e w' => e = .returned (.int .i64 (r : Int)) ∧ Below w.heap.size w w' := by
  obtain ⟨n, xs, rfl, hM, rfl, hn⟩ := h
  exact heldInts_c v n w.heap.size k xs w (Sl.of_own (show w.ownsRow _ _ 1 v _ _ from hR.head)) (Nat.le_refl _) hM hn
end Go.Proofs.YtaniaadmphojeaaDoor
