/-
  WHAT IS SHOWN ASCENDS, plain; equal numbers. By gen_dsw.py.
-/
import Derived.Test.YtaniaadmphojeaaDoorE42
namespace Go.Proofs.YtaniaadmphojeaaDoor
open Go.RowKit Go.Proofs.YtaniaadmphojeaaDoor.Nm
set_option linter.unusedSimpArgs false
set_option linter.unusedVariables false

theorem asc_snoc {out : List Int} {i : Nat} (h : out.Pairwise (· < ·)) (hb : ∀ x ∈ out, x < (i : Int)) : (out ++ [(i : Int)]).Pairwise (· < ·) ∧ ∀ x ∈ out ++ [(i : Int)], x < ((i + 1 : Nat) : Int) := by
  refine ⟨List.pairwise_append.2 ⟨h, List.pairwise_singleton _ _, fun a ha b hb' => ?_⟩, fun x hx => ?_⟩
  · rw [List.mem_singleton.1 hb']; exact hb a ha
  · rcases List.mem_append.1 hx with hx | hx
    · have := hb x hx; omega
    · rw [List.mem_singleton.1 hx]; omega
theorem shG_asc (rs : List Rul) : ∀ (l : List Wrn) (i : Nat) (out : List Int) (old : List Wrn), out.Pairwise (· < ·) → (∀ x ∈ out, x < (i : Int)) → (shG rs i l out old).1.Pairwise (· < ·) := by
  intro l
  induction l with
  | nil => intro i out old h _; exact h
  | cons w t ih =>
    intro i out old h hb
    have hs := asc_snoc h hb
    have hb' : ∀ x ∈ out, x < ((i + 1 : Nat) : Int) := fun x hx => by have := hb x hx; omega
    unfold shG
    split
    · exact ih _ _ _ h hb'
    · split
      · exact hs.1
      · split
        · exact ih _ _ _ hs.1 hs.2
        · split
          · exact ih _ _ _ h hb'
          · exact ih _ _ _ hs.1 hs.2
theorem shG_pre (rs : List Rul) : ∀ (l : List Wrn) (i : Nat) (out : List Int) (old : List Wrn), out <+: (shG rs i l out old).1 := by
  intro l
  induction l with
  | nil => intro i out old; exact List.prefix_rfl
  | cons w t ih =>
    intro i out old
    have hp : out <+: out ++ [(i : Int)] := List.prefix_append _ _
    unfold shG
    split
    · exact ih _ _ _
    · split
      · exact hp
      · split
        · exact hp.trans (ih _ _ _)
        · split
          · exact ih _ _ _
          · exact hp.trans (ih _ _ _)
theorem shG_app (rs : List Rul) (m : List Wrn) : ∀ (l : List Wrn) (i : Nat) (out : List Int) (old : List Wrn), (shG rs i l out old).1 <+: (shG rs i (l ++ m) out old).1 := by
  intro l
  induction l with
  | nil => intro i out old; exact shG_pre rs m i out old
  | cons w t ih =>
    intro i out old
    rw [List.cons_append, shG, shG]
    split
    · exact ih _ _ _
    · split
      · exact List.prefix_rfl
      · split
        · exact ih _ _ _
        · split
          · exact ih _ _ _
          · exact ih _ _ _
theorem shG_raise (rs : List Rul) : ∀ (l : List Wrn) (i : Nat) (out : List Int) (old : List Wrn), (shG rs i l out old).2 = true → 0 < (shG rs i l out old).1.length := by
  intro l
  induction l with
  | nil => intro i out old h; cases h
  | cons w t ih =>
    intro i out old
    unfold shG
    split
    · exact ih _ _ _
    · split
      · intro _; simp
      · split
        · exact ih _ _ _
        · split
          · exact ih _ _ _
          · exact ih _ _ _
theorem shX_val {rs : List Rul} {l : List Wrn} (h : rulsOk rs = true) (h2 : wrnsOk l = true) : shX rs l = shG rs 0 l [] [] := by unfold shX shOk; rw [h, h2]; rfl
theorem shX_asc {rs : List Rul} {l : List Wrn} (h : rulsOk rs = true) (h2 : wrnsOk l = true) {k : Nat} {x y : Int} (hk : 1 ≤ k) (hx : (shX rs l).1[k - 1]? = some x) (hy : (shX rs l).1[k]? = some y) : x < y := by
  rw [shX_val h h2] at hx hy
  have hp := shG_asc rs l 0 [] [] List.Pairwise.nil (by intro x hx; cases hx)
  obtain ⟨h3, h4⟩ := List.getElem?_eq_some_iff.1 hx
  obtain ⟨h5, h6⟩ := List.getElem?_eq_some_iff.1 hy
  have := List.pairwise_iff_getElem.1 hp (k - 1) k h3 h5 (by omega)
  rw [h4, h6] at this
  exact this
theorem shX_early {rs : List Rul} {l : List Wrn} (h : rulsOk rs = true) (h2 : wrnsOk l = true) (k : Nat) : (shX rs (l.take k)).1.length ≤ (shX rs l).1.length ∧ (shX rs (l.take k)).1 = (shX rs l).1.take (shX rs (l.take k)).1.length := by
  have hp := shG_app rs (l.drop k) (l.take k) 0 [] []
  rw [List.take_append_drop] at hp
  rw [shX_val h h2, shX_val h (wrnsOk_take h2)]
  exact ⟨hp.length_le, List.prefix_iff_eq_take.1 hp⟩
theorem shX_raise {rs : List Rul} {l : List Wrn} (h : rulsOk rs = true) (h2 : wrnsOk l = true) (h3 : (shX rs l).2 = true) : 0 < (shX rs l).1.length := by
  rw [shX_val h h2] at h3 ⊢
  exact shG_raise rs l 0 [] [] h3

set_option maxHeartbeats 2000000 in
set_option maxRecDepth 100000 in
theorem equalInts_c {v v' : Value} {l : IntL} {w : World} {B B' : Nat} (s1 : Sl w B 1 l.length v (l.map vint)) (s2 : Sl w B' 1 l.length v' (l.map vint)) (hB : B ≤ w.heap.size) (hB' : B' ≤ w.heap.size) :
    Calls Tryd.prog 24 #[v, v'] w (BoolPost w true) := by
  obtain ⟨A1, k1, rfl, _, hm1⟩ := s1.form
  obtain ⟨A2, k2, rfl, _, hm2⟩ := s2.form
  unfold maxLen at hm1 hm2
  have HS := hid (And.intro s1 s2)
  generalize hn : l.length = n at *
  have b0 : ((n : Int) != (n : Int)) = false := by simp
  clear s1 s2
  go_enter Tryd.func24, Tryd.ntmps24
  go_wp2_with fail
  go_loopw [5] (fun iv wr => ∃ (i : Nat), iv = .int .i64 i ∧ i ≤ n ∧ Hid (Below w.heap.size w wr)) (fun iv _ => n - (intOf iv).toNat)
  case atStart => exact ⟨0, rfl, by omega, Below.refl _ _⟩
  case round =>
    obtain ⟨i, rfl, hi, HB⟩ := hrel
    by_cases hlt : i < n
    · obtain ⟨b, o, x, rfl, hbB, hx, g0⟩ := HS.out.1.int_at hlt
      obtain ⟨b', o', x', rfl, hbB', hx', g0'⟩ := HS.out.2.int_at hlt
      obtain rfl : x' = x := by rw [hx] at hx'; exact (Option.some.inj hx').symm
      replace g0 := (HB.out.cell (p := ⟨b, o + i, none⟩) (Nat.lt_of_lt_of_le hbB hB)).trans g0
      replace g0' := (HB.out.cell (p := ⟨b', o' + i, none⟩) (Nat.lt_of_lt_of_le hbB' hB')).trans g0'
      have e3 : (x' != x') = false := by simp
      have e4 : (x' == x') = true := by simp
      clear hx hx'
      go_wp2_with fail
      go_quiet (fail)
      go_wp2_with fail
      go_roundw
      case rel => exact ⟨i + 1, by go_num, by omega, below_dr HB.out _⟩
      case measure => simp [intOf]; omega
    · go_wp2_with fail
      go_ret
      exact ⟨rfl, HB.out⟩
end Go.Proofs.YtaniaadmphojeaaDoor
