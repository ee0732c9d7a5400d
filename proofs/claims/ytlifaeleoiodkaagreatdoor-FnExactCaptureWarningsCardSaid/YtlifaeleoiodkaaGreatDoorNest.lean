/-
  NEST: slices of slices, told by their rows.
-/
import Derived.Test.YtlifaeleoiodkaaGreatDoorApp
namespace Go.Proofs.YtlifaeleoiodkaaGreatDoor
open Go.RowKit Nm
set_option linter.unusedSimpArgs false
set_option linter.unusedVariables false

/-- an inner value, and its rows -/
abbrev Cell2 := Value × List Row
def inner (es : List Cell2) : List Row := es.flatMap (·.2)
def heads (es : List Cell2) : List Value := es.map (·.1)
def nestRows (T : TypeId) (v : Value) (es : List Cell2) : List Row := ⟨T, 1, es.length, v, heads es⟩ :: inner es
def NestR {D : Type} (T : TypeId) (R : List Row → Value → D → Prop) (rs : List Row) (v : Value) (L : List D) : Prop :=
  ∃ es : List Cell2, rs = nestRows T v es ∧ es.length = L.length ∧ ∀ (i : Nat) (e : Cell2) (l : D), es[i]? = some e → L[i]? = some l → R e.2 e.1 l
def NestIn {D : Type} (In : World → Nat → Value → D → Prop) (w : World) (B : Nat) (v : Value) (L : List D) : Prop :=
  ∃ us : List Value, Sl w B 1 L.length v us ∧ ∀ (i : Nat) (u : Value) (l : D), us[i]? = some u → L[i]? = some l → In w B u l
def MC (M : List Row → Value → Nat → Nat → Prop) : List Cell2 → Nat → Nat → Prop
  | [], k, r => k = r
  | e :: t, k, r => ∃ m, M e.2 e.1 k m ∧ MC M t m r
def NestM (T : TypeId) (M : List Row → Value → Nat → Nat → Prop) (rs : List Row) (v : Value) (k r : Nat) : Prop :=
  ∃ es : List Cell2, rs = nestRows T v es ∧ MC M es k r

theorem MC.snoc {M : List Row → Value → Nat → Nat → Prop} {es : List Cell2} {e : Cell2} {k m r : Nat} (h : MC M es k m) (h2 : M e.2 e.1 m r) : MC M (es ++ [e]) k r := by
  induction es generalizing k with
  | nil => cases h; exact ⟨r, h2, rfl⟩
  | cons a t ih => obtain ⟨x, h1, h3⟩ := h; exact ⟨x, h1, ih h3⟩
theorem inner_append (a b : List Cell2) : inner (a ++ b) = inner a ++ inner b := by simp [inner]
theorem inner_mem {es : List Cell2} {e : Cell2} (h : e ∈ es) : e.2.Sublist (inner es) := by
  induction es with
  | nil => cases h
  | cons a t ih =>
    rw [show inner (a :: t) = a.2 ++ inner t from by simp [inner]]
    rcases List.mem_cons.1 h with rfl | h
    · exact List.sublist_append_left _ _
    · exact (ih h).trans (List.sublist_append_right _ _)
theorem heads_at {es : List Cell2} {i : Nat} {e : Cell2} (h : es[i]? = some e) : (heads es)[i]? = some e.1 := by simp [heads, h]
theorem heads_len (es : List Cell2) : (heads es).length = es.length := by simp [heads]
theorem drop_at {α : Type} {l : List α} {i : Nat} {x : α} (h : l[i]? = some x) : l.drop i = x :: l.drop (i + 1) := by
  obtain ⟨hl, he⟩ := List.getElem?_eq_some_iff.1 h
  rw [List.drop_eq_getElem_cons hl, he]
section
variable {D : Type} {In In' : World → Nat → Value → D → Prop} {R : List Row → Value → D → Prop} {w w' : World} {B B' lo n c k : Nat} {v : Value} {A : Option Addr} {L : List D} {rs : List Row} {T : TypeId} {es : List Cell2}
theorem NestIn.to_ (h : NestIn In w B v L) (hi : ∀ u l, l ∈ L → In w B u l → In' w B u l) : NestIn In' w B v L := by
  obtain ⟨us, h1, h2⟩ := h
  exact ⟨us, h1, fun i u l hu hl => hi _ _ (List.mem_of_getElem? hl) (h2 i u l hu hl)⟩
theorem NestIn.below (h : NestIn In w B v L) (hb : Below B' w w') (hB : B ≤ B') (hi : ∀ u l, In w B u l → In w' B u l) : NestIn In w' B v L := by
  obtain ⟨us, h1, h2⟩ := h
  exact ⟨us, h1.below hb hB, fun i u l hu hl => hi _ _ (h2 i u l hu hl)⟩
theorem NestIn.form (h : NestIn In w B v L) : ∃ A c, v = .slice A L.length c ∧ L.length ≤ c ∧ c ≤ maxLen := by obtain ⟨us, h1, _⟩ := h; exact h1.form
theorem NestIn.count (h : NestIn In w B (.slice A n c) L) : L.length = n := by
  obtain ⟨A', c', he, _, _⟩ := h.form
  injection he with _ h2 _
  exact h2.symm
theorem NestIn.elem (h : NestIn In w B (.slice A n c) L) (hk : k < n) :
    ∃ (b o : Nat) (u : Value) (l : D), A = some ⟨b, o, none⟩ ∧ b < B ∧ L[k]? = some l ∧ w.cell? ⟨b, o + k, none⟩ = some u ∧ In w B u l := by
  have hn := h.count
  subst hn
  obtain ⟨us, h1, h2⟩ := h
  obtain ⟨b, o, e, hb, hc⟩ := sl_elem h1 hk
  have hul : us.length = L.length := by have := h1.1; simpa using this
  obtain ⟨u, hu⟩ : ∃ u, us[k]? = some u := ⟨_, List.getElem?_eq_getElem (by rw [hul]; exact hk)⟩
  obtain ⟨l, hl⟩ : ∃ l, L[k]? = some l := ⟨_, List.getElem?_eq_getElem hk⟩
  refine ⟨b, o, u, l, e, hb, hl, ?_, h2 k u l hu hl⟩
  have := hc 0 u (by simpa using hu)
  simpa using this
theorem nest_top (hr : Rows w lo (nestRows T v es)) : w.ownsRow lo T 1 v es.length (heads es) := hr.head
theorem nest_sub (hr : Rows w lo (nestRows T v es)) {e : Cell2} (he : e ∈ es) : Rows w lo e.2 := hr.sub ((inner_mem he).trans (List.sublist_cons_self _ _))
theorem NestR.own_ (h : NestR T R rs v L) (hr : Rows w lo rs) : NestIn (fun w _ u l => ∃ rs, Rows w lo rs ∧ R rs u l) w w.heap.size v L := by
  obtain ⟨es, rfl, hl, hR⟩ := h
  refine ⟨heads es, by rw [← hl]; exact Sl.of_own (nest_top hr), fun i u l hu hli => ?_⟩
  obtain ⟨e, he⟩ : ∃ e, es[i]? = some e := ⟨_, List.getElem?_eq_getElem (by rw [hl]; exact (List.getElem?_eq_some_iff.1 hli).1)⟩
  rw [heads_at he] at hu
  cases hu
  exact ⟨e.2, nest_sub hr (List.mem_of_getElem? he), hR i e l he hli⟩
theorem NestR.form (h : NestR T R rs v L) (hr : Rows w lo rs) : ∃ A n c, v = .slice A n c := by
  obtain ⟨A, c, h1, _⟩ := (h.own_ hr).form; exact ⟨A, _, c, h1⟩
theorem NestM.form {M : List Row → Value → Nat → Nat → Prop} {k r : Nat} (h : NestM T M rs v k r) (hr : Rows w lo rs) : ∃ A n c, v = .slice A n c := by
  obtain ⟨es, rfl, _⟩ := h
  obtain ⟨A, c, h1, _⟩ := (Sl.of_own (nest_top hr)).form; exact ⟨A, _, c, h1⟩
theorem NestR.at_ (h : NestR T R rs v L) (hr : Rows w lo rs) (hi : ∀ rs u l, l ∈ L → R rs u l → Rows w lo rs → In w w.heap.size u l) : NestIn In w w.heap.size v L :=
  (h.own_ hr).to_ fun u l hl ⟨rs, h1, h2⟩ => hi rs u l hl h2 h1
/-- a new row ahead of rows that came after it -/
theorem Rows.ahead {g : Nat} {xs : List Value} (ho : w.ownsRow lo T 1 (.slice (some ⟨g, 0, none⟩) n c) n xs) (hr : Rows w (g + 1) rs) (hl : lo ≤ g) : Rows w lo (⟨T, 1, n, .slice (some ⟨g, 0, none⟩) n c, xs⟩ :: rs) := by
  refine ⟨fun r hr' => ?_, List.pairwise_cons.2 ⟨fun b hb => ?_, hr.2⟩⟩
  · rcases List.mem_cons.1 hr' with rfl | hr'
    · exact ho
    · exact own_base (hr.1 r hr') (by omega)
  · have h3 := hr.1 b hb
    constructor
    · right; intro e2; have := own_lt h3 g e2.symm; omega
    · cases hq : b.v.ownBlock with
      | none => exact .inl rfl
      | some g' => right; intro e2; have e3 : g' = g := Option.some.inj e2; have := own_lt h3 g' hq; omega
/-- an inner row comes to the front, and goes back -/
theorem nest_perm (o : Row) (a b c d : List Row) : (o :: ((a ++ (b ++ c)) ++ d)).Perm (b ++ (o :: ((a ++ c) ++ d))) := by
  have e1 : o :: ((a ++ (b ++ c)) ++ d) = (o :: a) ++ (b ++ (c ++ d)) := by simp
  have e2 : b ++ (o :: ((a ++ c) ++ d)) = b ++ ((o :: a) ++ (c ++ d)) := by simp
  rw [e1, e2]
  exact List.perm_append_comm_assoc _ _ _
theorem Rows.front_ {o : Row} {a b c d : List Row} (h : Rows w lo (o :: ((a ++ (b ++ c)) ++ d))) : Rows w lo (b ++ (o :: ((a ++ c) ++ d))) := h.perm (nest_perm o a b c d)
theorem Rows.back_ {o : Row} {a b c d : List Row} (h : Rows w lo (b ++ (o :: ((a ++ c) ++ d)))) : Rows w lo (o :: ((a ++ (b ++ c)) ++ d)) := h.perm (nest_perm o a b c d).symm
end
end Go.Proofs.YtlifaeleoiodkaaGreatDoor
