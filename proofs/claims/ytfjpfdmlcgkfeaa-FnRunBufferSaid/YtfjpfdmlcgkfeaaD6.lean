/-
  LAWS OF RECORDS, plain: what AtLeast, DropRepeats leave; contracts in rows.
-/
import Derived.Test.YtfjpfdmlcgkfeaaD5
import Derived.Test.YtfjpfdmlcgkfeaaS1
import Derived.Test.YtfjpfdmlcgkfeaaR5
namespace Go.Proofs.Ytfjpfdmlcgkfeaa
open Go.RowKit Nm
set_option linter.unusedSimpArgs false
set_option linter.unusedVariables false

theorem IsRow.le {k : IntKind} {w : World} {a : Option Addr} {len cap : Nat} {z : List Int} (h : IsRow k w a len cap z) : len ≤ 9223372036854775807 := by
  rcases h with ⟨_, h, _, _⟩ | ⟨x, _, h1, h2, _⟩
  · omega
  · unfold maxLen at h2; omega
def RecsOut (w : World) (X : List Rec) (e : Ending) (w2 : World) : Prop := ∃ (u : Value) (rs : List Row), e = .returned u ∧ RecsR rs u X ∧ Rows w2 w.heap.size rs ∧ Below w.heap.size w w2
theorem RecsOut.of {w w2 : World} {X : List Rec} {e : Ending} (h : RowPost w 46 4 X.length (X.flatMap rcells) e w2) : RecsOut w X e w2 := by
  obtain ⟨v, he, ho, hb⟩ := h
  exact ⟨v, _, he, rfl, Rows.one ho, hb⟩
theorem RecsIn.rs_ {w : World} {B : Nat} {v : Value} {l : List Rec} (h : RecsIn w B v l) : Rs w B l.length v l := h.1
theorem iAtLeast {W : World} {v : Value} {l : List Rec} (h : RecsIn W W.heap.size v l) (a : Int) : Calls Try.prog 40 #[v, .int .i64 a] W (RecsOut W (atLX l a)) :=
  (implAtLeast_c v l.length W.heap.size l a W h.rs_ (Nat.le_refl _) h.2).mono fun _ _ => RecsOut.of
theorem iValidRecords {W : World} {v : Value} {l : List Rec} (h : RecsIn W W.heap.size v l) : Calls Try.prog 30 #[v] W (BoolPost W (recsOk l)) := implValidRecords_c v l.length W.heap.size l W h.rs_ (Nat.le_refl _)
theorem pick_all {α : Type} (l : List α) (p : α → Bool) (n : Nat) : rounds (pickIf l fun _ y => p y) n = (l.take n).filter p := by
  induction n with
  | zero => simp [rounds]
  | succ n ih =>
    rw [rounds_succ', ih, List.take_add_one, List.filter_append]
    congr 1
    unfold pickIf
    cases l[n]? with
    | none => rfl
    | some x => simp only [Option.toList]; by_cases hp : p x = true <;> simp [hp]
theorem atL_eq (l : List Rec) (a : Int) : atL l a = l.filter fun y => decide (a ≤ y.lv) := by
  unfold atL; rw [pick_all, List.take_length]
theorem recs_sub {l m : List Rec} (h : recsOk l = true) (hs : ∀ x ∈ m, x ∈ l) (hl : m.length ≤ l.length) : recsOk m = true := by
  unfold recsOk at h ⊢
  simp only [Bool.and_eq_true, List.all_eq_true, decide_eq_true_eq] at h ⊢
  exact ⟨fun x hx => h.1 x (hs x hx), by omega⟩
theorem fit_sub {l m : List Rec} (h : RecsFit l) (hs : ∀ x ∈ m, x ∈ l) (hl : m.length ≤ l.length) : RecsFit m := ⟨Nat.le_trans hl h.1, fun x hx => h.2 x (hs x hx)⟩
theorem atL_sub (l : List Rec) (a : Int) : (∀ x ∈ atL l a, x ∈ l) ∧ (atL l a).length ≤ l.length := by
  rw [atL_eq]; exact ⟨fun x hx => (List.mem_filter.1 hx).1, List.length_filter_le _ _⟩
theorem atLX_sub (l : List Rec) (a : Int) : (∀ x ∈ atLX l a, x ∈ l) ∧ (atLX l a).length ≤ l.length := by
  unfold atLX; split
  · exact atL_sub l a
  · simp
theorem atLX_fit {l : List Rec} (h : RecsFit l) (a : Int) : RecsFit (atLX l a) := fit_sub h (atLX_sub l a).1 (atLX_sub l a).2
theorem atLX_ok {l : List Rec} (h : recsOk l = true) (a : Int) : atLX l a = l.filter fun y => decide (a ≤ y.lv) := by unfold atLX; rw [if_pos h, atL_eq]
theorem atLX_valid {l : List Rec} (h : recsOk l = true) (a : Int) : recsOk (atLX l a) = true := recs_sub h (atLX_sub l a).1 (atLX_sub l a).2
theorem atLX_up {l : List Rec} (h : recsOk l = true) (a b : Int) (hab : a ≤ b) : atLX (atLX l a) b = atLX l b := by
  rw [atLX_ok (atLX_valid h a), atLX_ok h, atLX_ok h, List.filter_filter]
  apply List.filter_congr
  intro x _
  by_cases hb : b ≤ x.lv
  · have : a ≤ x.lv := by omega
    simp [hb, this]
  · simp [hb]
theorem atLX_one {l : List Rec} (h : recsOk l = true) : atLX l 1 = l := by
  rw [atLX_ok h]
  apply List.filter_eq_self.2
  intro x hx
  have h2 := h
  unfold recsOk at h2
  simp only [Bool.and_eq_true, List.all_eq_true] at h2
  have := h2.1 x hx
  unfold recOk at this
  simp only [Bool.and_eq_true] at this
  exact this.2.1
theorem atLX_bad {l : List Rec} (h : recsOk l = false) (a : Int) : atLX l a = [] := by unfold atLX; rw [h]; rfl
/-- a slice cut -/
theorem Sl.cutd {w : World} {B d n c : Nat} {A : Option Addr} {xs : List Value} (h : Sl w B d n (.slice A n c) xs) {k : Nat} (hk : k ≤ n) : Sl w B d k (.slice A k c) (xs.take (k * d)) := by
  obtain ⟨A', c', he, h2, h3, hl, h4⟩ := h.parts_
  obtain ⟨rfl, -, rfl⟩ : A = A' ∧ n = n ∧ c = c' := by simpa using he
  have hm := Nat.mul_le_mul_right d hk
  refine ⟨by simp; omega, A, c, rfl, by omega, h3, fun hk0 => ?_⟩
  obtain ⟨b, o, e, hb, hc⟩ := h4 (by omega)
  refine ⟨b, o, e, hb, fun j u hu => hc j u ?_⟩
  rw [List.getElem?_take] at hu
  split at hu
  · exact hu
  · cases hu
theorem flat_take {α : Type} (f : α → List Value) (d : Nat) (hf : ∀ x, (f x).length = d) (l : List α) (k : Nat) : (l.flatMap f).take (k * d) = (l.take k).flatMap f := by
  induction l generalizing k with
  | nil => simp
  | cons a t ih =>
    cases k with
    | zero => simp
    | succ k =>
      rw [List.flatMap_cons, List.take_succ_cons, List.flatMap_cons, List.take_append, hf, List.take_of_length_le (by rw [hf, Nat.succ_mul]; omega), show (k + 1) * d - d = k * d by rw [Nat.succ_mul]; omega, ih]
theorem RecsIn.cut {w : World} {B n c : Nat} {A : Option Addr} {l : List Rec} (h : RecsIn w B (.slice A n c) l) {k : Nat} (hk : k ≤ n) : RecsIn w B (.slice A k c) (l.take k) := by
  have hn := h.1.count
  obtain ⟨A', c', he, _, _⟩ := h.1.1.form
  injection he with _ h2 _
  obtain ⟨⟨h1, hf⟩, hm⟩ := h
  rw [← h2] at h1
  have h3 := h1.cutd hk
  rw [flat_take rcells 4 rcells_len] at h3
  have hl : (l.take k).length = k := by rw [List.length_take]; omega
  exact ⟨⟨by rw [hl]; exact h3, fun x hx => hf x (List.mem_of_mem_take hx)⟩, by rw [List.length_take]; omega⟩
theorem drop_sub (l : List Rec) : (∀ x ∈ dropReps l, x ∈ l) ∧ (dropReps l).length ≤ l.length := by
  unfold dropReps; split
  · refine ⟨fun x hx => ?_, rounds_len _ (fun i => pickIf_len _ _ i) _⟩
    unfold rounds at hx
    obtain ⟨k, _, hk⟩ := List.mem_flatMap.1 hx
    unfold pickIf at hk
    split at hk
    · rename_i y hy
      split at hk
      · rw [List.mem_singleton.1 hk]; exact List.mem_of_getElem? hy
      · cases hk
    · cases hk
  · simp
end Go.Proofs.Ytfjpfdmlcgkfeaa
