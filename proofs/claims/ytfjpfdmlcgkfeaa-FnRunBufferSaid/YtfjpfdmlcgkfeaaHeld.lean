/-
  A region that draws its order and STORES INTO A CELL THAT IT LOADS: the condition on that cell is let go once operation m (which waits for the load) has come up.
-/
import Derived.Test.YtfjpfdmlcgkfeaaBase
import Derived.Deep.RegionHeld3
namespace Go.Proofs.Ytfjpfdmlcgkfeaa
open Go
set_option linter.unusedSimpArgs false
set_option linter.unusedVariables false

section
variable {P : Program} {ops : Array Oper} {Q : Exit → Act → World → Prop} {md : Region.Mode} {T0 T1 : World → Prop} {m : Nat}

/-- T0 throughout, and T1 till operation m has come up -/
abbrev SLet (T0 T1 : World → Prop) (m : Nat) (l : Array Bool) (w : World) : Prop := T0 w ∧ (l.getD m true = false → T1 w)

def wpAnyL (P : Program) (md : Region.Mode) (ops : Array Oper) (Q : Exit → Act → World → Prop) (T0 T1 : World → Prop) (m : Nat) : Nat → Array Bool → Act → World → Prop
  | 0, listed, a, w => Region.ready md ops listed = [] ∧ Q .normal a w
  | fuel + 1, listed, a, w =>
    (Region.ready md ops listed = [] → Q .normal a w) ∧
    ∀ i ∈ Region.ready md ops listed, wpOp P ops Q i (fun a' w' => SLet T0 T1 m (listed.setIfInBounds i true) w' ∧ wpAnyL P md ops Q T0 T1 m fuel (listed.setIfInBounds i true) a' w') a w

theorem wpAny_of_let : ∀ (fuel : Nat) (listed : Array Bool) (a : Act) (w : World), wpAnyL P md ops Q T0 T1 m fuel listed a w → wpAny P md ops Q fuel listed a w
  | 0, _, _, _, h => h
  | fuel + 1, _, _, _, h => ⟨h.1, fun i hi => wpOp_mono (fun a' w' h' => wpAny_of_let fuel _ a' w' h'.2) (h.2 i hi)⟩

theorem let_set {T0 T1 : World → Prop} {m i : Nat} (h : i ≠ m) (l : Array Bool) (w : World) : SLet T0 T1 m (l.setIfInBounds i true) w ↔ SLet T0 T1 m l w := by
  unfold SLet
  rw [getD_set_ne true h]

theorem wpAnyL_first {i : Nat} {oi : Oper} {v : Value} (hi : ops[i]? = some oi) (hsel : ∀ (j : Nat) (o : Oper) cs b, ops[j]? = some o → o.op ≠ .select cs b)
    (hQ : ∀ c a w, Q (.panic c) (a.put oi.dst v) w → Q (.panic c) a w) (him : i ≠ m) (T : World → Prop) (inv : Array Bool → Prop)
    (hinv : ∀ l j oj, inv l → ops[j]? = some oj → (∀ e ∈ oj.after, Region.binds md e = true → e.on ≠ i) → inv (l.setIfInBounds j true)) (hT : ∀ l w, inv l → SLet T0 T1 m l w → T w) :
    ∀ (fuel : Nat) (listed : Array Bool) (a : Act) (w : World),
      (∀ j oj, ops[j]? = some oj → j ≠ i → listed.getD j true = false → (∀ e ∈ oj.after, Region.binds md e = true → e.on ≠ i) → oi.apart ops oj = true) →
      i ∈ Region.ready md ops listed → inv listed → YieldsIf P ops T oi v a → SLet T0 T1 m listed w →
      wpAnyL P md ops Q T0 T1 m fuel (listed.setIfInBounds i true) (a.put oi.dst v) w → wpAnyL P md ops Q T0 T1 m (fuel + 1) listed a w := by
  intro fuel
  induction fuel with
  | zero =>
    intro listed a w _ hr hv hy hS H
    refine ⟨fun h => (by rw [h] at hr; cases hr), fun j hj => ?_⟩
    by_cases hji : j = i
    · subst hji; exact hy.wpOp hi (hT _ _ hv hS) ⟨(let_set him _ _).2 hS, H⟩
    · have := ready_mono hj hji
      rw [H.1] at this
      cases this
  | succ fuel ih =>
    intro listed a w hfree hr hv hy hS H
    refine ⟨fun h => (by rw [h] at hr; cases hr), fun j hj => ?_⟩
    by_cases hji : j = i
    · subst hji; exact hy.wpOp hi (hT _ _ hv hS) ⟨(let_set him _ _).2 hS, H⟩
    · have h1 := H.2 j (ready_mono hj hji)
      obtain ⟨hjun, oj, hoj, hall⟩ := mem_ready.1 hj
      have hnot : ∀ e ∈ oj.after, Region.binds md e = true → e.on ≠ i := fun e he hb heq => by
        have h1 := hall e he hb
        have h0 := (mem_ready.1 hr).1
        rw [heq] at h1
        rcases Nat.lt_or_ge i listed.size with h' | h'
        · simp [h'] at h0 h1; rw [h0] at h1; cases h1
        · simp [Array.getElem?_eq_none h'] at h1
      have h2 := wpOp_putIf hoj (hfree j oj hoj hji hjun hnot) (fun cs b => hsel i oi cs b hi) (fun cs b => hsel j oj cs b hoj) hQ hy h1
      have hfree' : ∀ k ok, ops[k]? = some ok → k ≠ i → (listed.setIfInBounds j true).getD k true = false →
          (∀ e ∈ ok.after, Region.binds md e = true → e.on ≠ i) → oi.apart ops ok = true := fun k ok hk hki hun hno => by
        refine hfree k ok hk hki ?_ hno
        by_cases hjk : j = k
        · subst hjk; exact hjun
        · rw [getD_set_ne true hjk] at hun; exact hun
      refine wpOp_mono (fun a' w' h3 => ?_) h2
      have e := Array.setIfInBounds_comm (xs := listed) true true hji
      have hS2 : SLet T0 T1 m (listed.setIfInBounds j true) w' := by
        have := h3.2.1
        rw [← Array.setIfInBounds_comm _ _ hji] at this
        exact (let_set him _ _).1 this
      refine ⟨hS2, ih (listed.setIfInBounds j true) a' w' hfree' (ready_mono hr (Ne.symm hji)) (hinv _ _ _ hv hoj hnot) h3.1 hS2 ?_⟩
      rw [Array.setIfInBounds_comm _ _ hji]
      exact h3.2.2

/-- an operation that yields its value under T0 is taken first -/
theorem wpAnyL_take {i : Nat} {oi : Oper} {v : Value} {fuel : Nat} {listed : Array Bool} {a : Act} {w : World} (hi : ops[i]? = some oi)
    (hs : Region.noSelect ops = true) (hf : Region.free md ops listed i = true) (hr : (Region.ready md ops listed).contains i = true) (him : i ≠ m)
    (hQ : ∀ c a w, Q (.panic c) (a.put oi.dst v) w → Q (.panic c) a w) (hy : YieldsIf P ops T0 oi v a) (hS : SLet T0 T1 m listed w)
    (h : wpAnyL P md ops Q T0 T1 m fuel (listed.setIfInBounds i true) (a.put oi.dst v) w) : wpAnyL P md ops Q T0 T1 m (fuel + 1) listed a w :=
  wpAnyL_first hi (Region.noSelect_spec hs) hQ him T0 (fun _ => True) (fun _ _ _ _ _ _ => trivial) (fun _ _ _ h => h.1) fuel listed a w (Region.free_spec hi hf) (by simpa using hr) trivial hy hS h
/-- the load that operation m waits for is taken first, under T1 -/
theorem wpAnyL_take1 {i : Nat} {oi om : Oper} {v : Value} {fuel : Nat} {listed : Array Bool} {a : Act} {w : World} (hi : ops[i]? = some oi)
    (hs : Region.noSelect ops = true) (hf : Region.free md ops listed i = true) (hr : (Region.ready md ops listed).contains i = true) (him : i ≠ m)
    (hm : ops[m]? = some om) (hdep : (om.after.any fun e => Region.binds md e && e.on == i) = true) (hml : listed.getD m true = false)
    (hQ : ∀ c a w, Q (.panic c) (a.put oi.dst v) w → Q (.panic c) a w) (hy : YieldsIf P ops T1 oi v a) (hS : SLet T0 T1 m listed w)
    (h : wpAnyL P md ops Q T0 T1 m fuel (listed.setIfInBounds i true) (a.put oi.dst v) w) : wpAnyL P md ops Q T0 T1 m (fuel + 1) listed a w :=
  wpAnyL_first hi (Region.noSelect_spec hs) hQ him T1 (fun l => l.getD m true = false) (fun l j oj hl hj hno => by
    have hjm : j ≠ m := fun e => by
      subst e
      rw [hm] at hj
      cases hj
      simp only [Array.any_eq_true, List.any_eq_true, Bool.and_eq_true, beq_iff_eq] at hdep
      first
        | (obtain ⟨x, hx, hb, ho⟩ := hdep; exact hno x hx hb ho)
        | (obtain ⟨k, hk, hb, ho⟩ := hdep; exact hno _ (Array.getElem_mem hk) hb ho)
    rw [getD_set_ne true hjm]; exact hl) (fun _ _ hl h => h.2 hl) fuel listed a w (Region.free_spec hi hf) (by simpa using hr) hml hy hS h

def AllReadyL (P : Program) (md : Region.Mode) (ops : Array Oper) (Q : Exit → Act → World → Prop) (T0 T1 : World → Prop) (m : Nat) (fuel : Nat) (listed : Array Bool) (a : Act) (w : World) (rs : List Nat) : Prop :=
  ∀ i ∈ rs, wpOp P ops Q i (fun a' w' => SLet T0 T1 m (listed.setIfInBounds i true) w' ∧ wpAnyL P md ops Q T0 T1 m fuel (listed.setIfInBounds i true) a' w') a w
theorem AllReadyL.nil {fuel : Nat} {listed : Array Bool} {a : Act} {w : World} : AllReadyL P md ops Q T0 T1 m fuel listed a w [] := fun _ h => by cases h
theorem AllReadyL.cons {fuel : Nat} {listed : Array Bool} {a : Act} {w : World} {i : Nat} {o : Oper} {rs : List Nat} (ho : ops[i]? = some o)
    (h : ∀ K' : Act → World → Prop, Shut (∀ a w, SLet T0 T1 m (listed.setIfInBounds i true) w → (SLet T0 T1 m (listed.setIfInBounds i true) w → wpAnyL P md ops Q T0 T1 m fuel (listed.setIfInBounds i true) a w) → K' a w) → if Region.wanted o (yielded ops a.tmps) = true then Oper.wp P o a w K' Q else K' (a.put o.dst undef) w)
    (hs : AllReadyL P md ops Q T0 T1 m fuel listed a w rs) : AllReadyL P md ops Q T0 T1 m fuel listed a w (i :: rs) := fun j hj => by
  rcases List.mem_cons.1 hj with rfl | hj
  · exact wpOp_step ho (fun K' hK => h K' (fun a w hS hW => hK a w ⟨hS, hW hS⟩))
  · exact hs j hj
theorem wpAnyL_ready {rs : List Nat} {fuel : Nat} {listed : Array Bool} {a : Act} {w : World} (hr : Region.ready md ops listed = rs) (hne : rs ≠ [])
    (h : AllReadyL P md ops Q T0 T1 m fuel listed a w rs) : wpAnyL P md ops Q T0 T1 m (fuel + 1) listed a w :=
  ⟨fun h0 => absurd (hr ▸ h0) hne, hr ▸ h⟩
theorem wpAnyL_done {listed : Array Bool} {a : Act} {w : World} (hr : Region.ready md ops listed = []) (h : Q .normal a w) :
    ∀ fuel, wpAnyL P md ops Q T0 T1 m fuel listed a w
  | 0 => ⟨hr, h⟩
  | _ + 1 => ⟨fun _ => h, by rw [hr]; simp⟩
theorem wp_region_let {id : Nat} {a : Act} {w : World} (m : Nat) (T0 T1 : World → Prop) (hm : P.follows .mixedOrders = true) (h0 : T0 w.drew) (h1 : T1 w.drew)
    (h : SLet T0 T1 m (Array.replicate ops.size false) w.drew → wpAnyL P .any ops Q T0 T1 m ops.size (Array.replicate ops.size false) a w.drew) : (Code.region id ops true).wp P Q a w :=
  wp_region_any hm (wpAny_of_let _ _ _ _ (h ⟨h0, fun _ => h1⟩))
end
end Go.Proofs.Ytfjpfdmlcgkfeaa
