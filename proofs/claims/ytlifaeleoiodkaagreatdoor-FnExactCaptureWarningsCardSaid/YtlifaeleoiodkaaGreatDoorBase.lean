/-
  Names, Words, A1, W1, W2, W3, W4, W5, W6, W7, W14, W15, W16, M1, M3, M4 laid together.
-/
import Derived.WalkKit
import Derived.Handy
import Derived.Deep.Draws
import Derived.Laws.AppendOwnNone
import Derived.Test.YtlifaeleoiodkaaGreatDoorChecked
import Derived.Lib.IndexBytes
import Derived.Deep.LoopGhost
import Derived.Deep.QuietTactic
import Derived.BigQuiet
import Derived.Deep.RegionWith
import Derived.ProofKit
import Derived.Deep.Slices
import Derived.Deep.Fields
import Derived.Maps.OwnOps
import Derived.Maps.Views
import Derived.Maps.RangeWalk
/-
  PLAIN: names of loggers as lists of bytes: words, points, to be below, the common name. No program, no memory.
-/
namespace Go.Proofs.YtlifaeleoiodkaaGreatDoor.Nm
def low (c : UInt8) : Bool := decide (97 ≤ c.toNat) && decide (c.toNat ≤ 122)
def wordOk (l : List UInt8) : Bool := l.all low && (decide (1 ≤ l.length) && decide (l.length ≤ 4))
def splitDot : List UInt8 → List (List UInt8)
  | [] => [[]]
  | c :: r => if c = 46 then [] :: splitDot r else match splitDot r with
    | [] => [[c]]
    | w :: ws => (c :: w) :: ws
def partsL (l : List UInt8) : List (List UInt8) := if l = [] then [] else splitDot l
def nameOk (l : List UInt8) : Bool := (partsL l).all wordOk && decide ((partsL l).length ≤ 4)
def joinL : List (List UInt8) → List UInt8
  | [] => []
  | [w] => w
  | w :: x :: r => w ++ 46 :: joinL (x :: r)
def belowL (a b : List UInt8) : Bool := decide (b = []) || (decide (a = b) || decide ((b ++ [46]) <+: a))

theorem splitDot_ne (l : List UInt8) : splitDot l ≠ [] := by
  cases l with
  | nil => simp [splitDot]
  | cons c r => simp only [splitDot]; split
                · simp
                · split <;> simp

theorem splitDot_dot (r : List UInt8) : splitDot (46 :: r) = [] :: splitDot r := by simp [splitDot]

/-- a stretch without a point, then a point -/
theorem splitDot_app (w r : List UInt8) (h : ∀ c ∈ w, c ≠ 46) : splitDot (w ++ 46 :: r) = w :: splitDot r := by
  induction w with
  | nil => simp [splitDot]
  | cons c w ih =>
    have hc : c ≠ 46 := h c (by simp)
    have := ih (fun x hx => h x (by simp [hx]))
    simp [splitDot, hc, this]
theorem splitDot_one (w : List UInt8) (h : ∀ c ∈ w, c ≠ 46) : splitDot w = [w] := by
  induction w with
  | nil => simp [splitDot]
  | cons c w ih =>
    have hc : c ≠ 46 := h c (by simp)
    have := ih (fun x hx => h x (by simp [hx]))
    simp [splitDot, hc, this]

theorem splitDot_nodot (l : List UInt8) : ∀ w ∈ splitDot l, ∀ c ∈ w, c ≠ 46 := by
  induction l with
  | nil => simp [splitDot]
  | cons c r ih =>
    simp only [splitDot]
    split
    · intro w hw
      simp only [List.mem_cons] at hw
      rcases hw with rfl | hw
      · simp
      · exact ih w hw
    · rename_i hc
      split
      · rename_i h; exact absurd h (splitDot_ne r)
      · rename_i w ws h
        rw [h] at ih
        intro x hx
        simp only [List.mem_cons] at hx
        rcases hx with rfl | hx
        · intro d hd
          simp only [List.mem_cons] at hd
          rcases hd with rfl | hd
          · exact hc
          · exact ih w (by simp) d hd
        · exact ih x (by simp [hx])

theorem joinL_cons (w : List UInt8) (r : List (List UInt8)) (h : r ≠ []) : joinL (w :: r) = w ++ 46 :: joinL r := by
  cases r with
  | nil => exact absurd rfl h
  | cons x r => rfl

theorem join_split (l : List UInt8) : joinL (splitDot l) = l := by
  induction l with
  | nil => simp [splitDot, joinL]
  | cons c r ih =>
    simp only [splitDot]
    split
    · rename_i hc
      rw [joinL_cons _ _ (splitDot_ne r), ih, hc]; rfl
    · split
      · rename_i h; exact absurd h (splitDot_ne r)
      · rename_i w ws h
        rw [h] at ih
        cases ws with
        | nil => simp only [joinL] at ih ⊢; rw [ih]
        | cons x xs => rw [joinL_cons _ _ (by simp)] at ih ⊢; rw [← ih]; rfl

theorem split_join (ws : List (List UInt8)) (hne : ws ≠ []) (h : ∀ w ∈ ws, ∀ c ∈ w, c ≠ 46) : splitDot (joinL ws) = ws := by
  induction ws with
  | nil => exact absurd rfl hne
  | cons w r ih =>
    cases r with
    | nil => exact splitDot_one w (h w (by simp))
    | cons x r =>
      rw [joinL_cons _ _ (by simp), splitDot_app _ _ (h w (by simp)), ih (by simp) (fun v hv => h v (by simp [hv]))]

theorem join_parts (l : List UInt8) : joinL (partsL l) = l := by
  unfold partsL
  split
  · rename_i h; subst h; rfl
  · exact join_split l

theorem low_ne (c : UInt8) (h : low c = true) : c ≠ 46 := by
  rintro rfl; simp [low] at h

theorem wordOk_nodot (w : List UInt8) (h : wordOk w = true) : ∀ c ∈ w, c ≠ 46 := by
  simp only [wordOk, Bool.and_eq_true, List.all_eq_true] at h
  exact fun c hc => low_ne c (h.1 c hc)

/-- the length of the word ahead of the first point, 0 if there is none -/
def wlen (l : List UInt8) : Nat := if wordOk (l.takeWhile (· != 46)) then (l.takeWhile (· != 46)).length else 0

theorem splitDot_head (l : List UInt8) : ∃ ws, splitDot l = l.takeWhile (· != 46) :: ws := by
  induction l with
  | nil => exact ⟨[], rfl⟩
  | cons c r ih =>
    obtain ⟨ws, h⟩ := ih
    by_cases hc : c = 46
    · subst hc; exact ⟨splitDot r, by simp [splitDot]⟩
    · exact ⟨ws, by simp [splitDot, hc, h]⟩

theorem wlen_zero (l : List UInt8) (h : wlen l = 0) : (splitDot l).all wordOk = false := by
  obtain ⟨ws, e⟩ := splitDot_head l
  rw [e]
  unfold wlen at h
  split at h
  · rename_i hw
    simp only [wordOk, Bool.and_eq_true, decide_eq_true_eq] at hw
    omega
  · rename_i hw
    simp at hw
    simp [hw]

theorem takeWhile_spec (l : List UInt8) : (l.takeWhile (· != 46) = l) ∨ ∃ r, l = l.takeWhile (· != 46) ++ 46 :: r := by
  induction l with
  | nil => simp
  | cons c r ih =>
    by_cases hc : c = 46
    · subst hc; exact .inr ⟨r, by simp⟩
    · rcases ih with h | ⟨x, h⟩
      · left; simp [hc, h]
      · right; exact ⟨x, by simp [hc]; exact h⟩

theorem wlen_pos (l : List UInt8) (h : wlen l ≠ 0) : 1 ≤ wlen l ∧ wlen l ≤ 4 ∧ wlen l ≤ l.length ∧ wordOk (l.take (wlen l)) = true ∧
    ((wlen l = l.length ∧ splitDot l = [l.take (wlen l)]) ∨ (wlen l < l.length ∧ splitDot l = l.take (wlen l) :: splitDot (l.drop (wlen l + 1)))) := by
  unfold wlen at h ⊢
  split
  · rename_i hw
    have hw2 := hw
    simp only [wordOk, Bool.and_eq_true, decide_eq_true_eq] at hw2
    obtain ⟨_, h1, h4⟩ := hw2
    have hnd := wordOk_nodot _ hw
    rcases takeWhile_spec l with e | ⟨r, e⟩
    · rw [e] at hw h1 h4 hnd ⊢
      refine ⟨h1, h4, Nat.le_refl _, by simpa using hw, .inl ⟨rfl, ?_⟩⟩
      rw [splitDot_one l hnd]; simp
    · generalize ht : l.takeWhile (· != 46) = t at *
      subst e
      refine ⟨h1, h4, by simp, by simpa using hw, .inr ⟨by simp, ?_⟩⟩
      rw [splitDot_app _ _ hnd]
      have e1 : List.drop (t.length + 1) (t ++ 46 :: r) = r := by
        rw [show t ++ 46 :: r = (t ++ [46]) ++ r from by simp, show t.length + 1 = (t ++ [46]).length from by simp, List.drop_left]
      simp [e1]
  · rename_i hw; simp [hw] at h


/-- names: words with points -/
theorem nameOk_join (ws : List (List UInt8)) (h : ∀ w ∈ ws, wordOk w = true) (hl : ws.length ≤ 4) : nameOk (joinL ws) = true ∧ partsL (joinL ws) = ws := by
  have hp : partsL (joinL ws) = ws := by
    cases ws with
    | nil => rfl
    | cons w r =>
      unfold partsL
      have hne : joinL (w :: r) ≠ [] := by
        have hw := h w (by simp)
        simp only [wordOk, Bool.and_eq_true, decide_eq_true_eq] at hw
        cases r with
        | nil => simp only [joinL]; intro e; rw [e] at hw; simp at hw
        | cons x r => rw [joinL_cons _ _ (by simp)]; simp
      rw [if_neg hne]
      exact split_join _ (by simp) (fun w hw => wordOk_nodot w (h w hw))
  refine ⟨?_, hp⟩
  unfold nameOk
  rw [hp]
  simp only [Bool.and_eq_true, List.all_eq_true, decide_eq_true_eq]
  exact ⟨h, hl⟩

theorem nameOk_iff (l : List UInt8) : nameOk l = true ↔ (∀ w ∈ partsL l, wordOk w = true) ∧ (partsL l).length ≤ 4 := by
  unfold nameOk; simp only [Bool.and_eq_true, List.all_eq_true, decide_eq_true_eq]

theorem joinL_app (a b : List (List UInt8)) (ha : a ≠ []) (hb : b ≠ []) : joinL (a ++ b) = joinL a ++ 46 :: joinL b := by
  induction a with
  | nil => exact absurd rfl ha
  | cons w r ih =>
    cases r with
    | nil => simp [joinL_cons _ _ hb, joinL]
    | cons x r =>
      rw [List.cons_append, joinL_cons w (x :: r ++ b) (by simp), ih (by simp), joinL_cons w (x :: r) (by simp)]
      simp

theorem partsL_nil_iff (l : List UInt8) : partsL l = [] ↔ l = [] := by
  unfold partsL
  split
  · simp_all
  · rename_i h; simp [h, splitDot_ne]

theorem splitDot_pref (b r : List UInt8) : splitDot (b ++ 46 :: r) = splitDot b ++ splitDot r := by
  induction b with
  | nil => simp [splitDot]
  | cons c b ih =>
    rw [List.cons_append]
    simp only [splitDot]
    split
    · rw [ih]; rfl
    · rw [ih]
      cases hb : splitDot b with
      | nil => exact absurd hb (splitDot_ne b)
      | cons w ws => rfl

/-- to be below is to begin with the same words -/
theorem belowL_iff (a b : List UInt8) : belowL a b = true ↔ partsL b <+: partsL a := by
  unfold belowL
  simp only [Bool.or_eq_true, decide_eq_true_eq]
  constructor
  · rintro (rfl | rfl | ⟨r, h⟩)
    · simp [partsL]
    · exact List.prefix_refl _
    · have e : a = b ++ 46 :: r := by rw [← h]; simp
      subst e
      unfold partsL
      by_cases hb : b = []
      · simp [hb]
      · rw [if_neg hb, if_neg (by simp), splitDot_pref]
        exact List.prefix_append _ _
  · rintro ⟨r, h⟩
    by_cases hb : b = []
    · exact .inl hb
    · right
      have hbp : partsL b ≠ [] := fun e => hb ((partsL_nil_iff b).1 e)
      by_cases hr : r = []
      · left
        rw [← join_parts a, ← h, hr, List.append_nil, join_parts]
      · right
        rw [← join_parts a, ← h, joinL_app _ _ hbp hr, join_parts]
        exact ⟨joinL r, by simp⟩


def cpre : List (List UInt8) → List (List UInt8) → List (List UInt8)
  | x :: xs, y :: ys => if x = y then x :: cpre xs ys else []
  | _, _ => []
def commonL (a b : List UInt8) : List UInt8 := joinL (cpre (partsL a) (partsL b))

theorem cpre_left (x y : List (List UInt8)) : cpre x y <+: x := by
  induction x generalizing y with
  | nil => simp [cpre]
  | cons a x ih =>
    cases y with
    | nil => simp [cpre]
    | cons b y =>
      simp only [cpre]; split
      · exact List.cons_prefix_cons.2 ⟨rfl, ih y⟩
      · simp
theorem cpre_comm (x y : List (List UInt8)) : cpre x y = cpre y x := by
  induction x generalizing y with
  | nil => cases y <;> simp [cpre]
  | cons a x ih =>
    cases y with
    | nil => simp [cpre]
    | cons b y =>
      simp only [cpre]
      by_cases h : a = b
      · subst h; simp [ih y]
      · simp [h, Ne.symm h]
theorem cpre_right (x y : List (List UInt8)) : cpre x y <+: y := by rw [cpre_comm]; exact cpre_left y x
theorem cpre_max (z x y : List (List UInt8)) (hx : z <+: x) (hy : z <+: y) : z <+: cpre x y := by
  induction z generalizing x y with
  | nil => simp
  | cons c z ih =>
    obtain ⟨r, rfl⟩ := hx
    obtain ⟨s, rfl⟩ := hy
    simp only [List.cons_append, cpre, if_true]
    exact List.cons_prefix_cons.2 ⟨rfl, ih _ _ (List.prefix_append _ _) (List.prefix_append _ _)⟩
theorem cpre_eq_right (x y : List (List UInt8)) : cpre x y = y ↔ y <+: x := by
  constructor
  · intro h; have := cpre_left x y; rwa [h] at this
  · intro h
    exact (List.IsPrefix.eq_of_length_le (cpre_right x y) (List.IsPrefix.length_le (cpre_max y x y h (List.prefix_refl _))))

theorem words_prefix {z : List (List UInt8)} {l : List UInt8} (h : nameOk l = true) (hz : z <+: partsL l) : (∀ w ∈ z, wordOk w = true) ∧ z.length ≤ 4 := by
  obtain ⟨h1, h2⟩ := (nameOk_iff l).1 h
  exact ⟨fun w hw => h1 w (hz.subset hw), Nat.le_trans hz.length_le h2⟩

theorem common_ok (a b : List UInt8) (ha : nameOk a = true) : nameOk (commonL a b) = true ∧ partsL (commonL a b) = cpre (partsL a) (partsL b) := by
  obtain ⟨h1, h2⟩ := words_prefix ha (cpre_left (partsL a) (partsL b))
  exact nameOk_join _ h1 h2

/-- without its last word -/
def aboveL (l : List UInt8) : List UInt8 := joinL (partsL l).dropLast
theorem above_take (b : List UInt8) (k : Nat) (hb : nameOk b = true) (hk : k + 1 ≤ (partsL b).length) :
    aboveL (joinL ((partsL b).take (k + 1))) = joinL ((partsL b).take k) := by
  obtain ⟨h1, h2⟩ := words_prefix hb (List.take_prefix (k + 1) (partsL b))
  unfold aboveL
  rw [(nameOk_join _ h1 h2).2]
  congr 1
  rw [List.dropLast_eq_take, List.length_take, List.take_take]
  congr 1
  omega
theorem partsL_inj {a b : List UInt8} (h : partsL a = partsL b) : a = b := by rw [← join_parts a, h, join_parts]
theorem common_stop (a b : List UInt8) (k : Nat) (hb : nameOk b = true) (hk : k ≤ (partsL b).length) (hc : (cpre (partsL a) (partsL b)).length ≤ k)
    (h : belowL a (joinL ((partsL b).take k)) = true) : joinL ((partsL b).take k) = commonL a b := by
  obtain ⟨h1, h2⟩ := words_prefix hb (List.take_prefix k (partsL b))
  rw [belowL_iff, (nameOk_join _ h1 h2).2] at h
  have h3 := cpre_max _ _ _ h (List.take_prefix k (partsL b))
  unfold commonL
  congr 1
  refine List.IsPrefix.eq_of_length_le h3 ?_
  rw [List.length_take]; omega
theorem common_go (a b : List UInt8) (k : Nat) (hb : nameOk b = true) (hc : (cpre (partsL a) (partsL b)).length ≤ k)
    (h : belowL a (joinL ((partsL b).take k)) = false) : (cpre (partsL a) (partsL b)).length + 1 ≤ k := by
  rcases Nat.lt_or_ge (cpre (partsL a) (partsL b)).length k with h0 | h0
  · omega
  · exfalso
    have hl : k = (cpre (partsL a) (partsL b)).length := by omega
    have e : (partsL b).take k = cpre (partsL a) (partsL b) := by
      have := List.prefix_iff_eq_take.1 (cpre_right (partsL a) (partsL b))
      rw [hl]; exact this.symm
    obtain ⟨h1, h2⟩ := words_prefix hb (List.take_prefix k (partsL b))
    have : belowL a (joinL ((partsL b).take k)) = true := by
      rw [belowL_iff, (nameOk_join _ h1 h2).2, e]; exact cpre_left _ _
    rw [this] at h; cases h
theorem tw_split (l : List UInt8) (p : Nat) (h : (l.take p).all low = true) : l.takeWhile (· != 46) = l.take p ++ (l.drop p).takeWhile (· != 46) := by
  conv => lhs; rw [← List.take_append_drop p l]
  rw [List.takeWhile_append_of_pos]
  intro c hc
  have := low_ne c (List.all_eq_true.1 h c hc)
  simpa using this
theorem drop_cons (l : List UInt8) (p : Nat) (c : UInt8) (h : l[p]? = some c) : l.drop p = c :: l.drop (p + 1) := by
  obtain ⟨hl, rfl⟩ := List.getElem?_eq_some_iff.1 h
  exact List.drop_eq_getElem_cons hl
theorem wordOk_low (l : List UInt8) (h : l.all low = true) (h4 : l.length ≤ 4) : (if wordOk l then l.length else 0) = l.length := by
  unfold wordOk
  rw [h]
  by_cases h1 : 1 ≤ l.length
  · simp [h1, h4]
  · have : l.length = 0 := by omega
    simp [this]
theorem wlen_stop (l : List UInt8) (p : Nat) (h : (l.take p).all low = true) (h4 : p ≤ 4) (hc : l[p]? = some 46) : wlen l = p := by
  have hl : p < l.length := (List.getElem?_eq_some_iff.1 hc).1
  have e : l.takeWhile (· != 46) = l.take p := by
    rw [tw_split l p h, drop_cons l p 46 hc]; simp
  unfold wlen
  rw [e, wordOk_low _ h (by simp; omega)]
  simp; omega
theorem wlen_end (l : List UInt8) (h : l.all low = true) (h4 : l.length ≤ 4) : wlen l = l.length := by
  have e : l.takeWhile (· != 46) = l := by
    have := tw_split l l.length (by simpa using h)
    simpa using this
  unfold wlen
  rw [e, wordOk_low _ h h4]
theorem wlen_bad (l : List UInt8) (p : Nat) (c : UInt8) (h : (l.take p).all low = true) (hc : l[p]? = some c) (hd : c ≠ 46) (hb : low c = false ∨ 4 ≤ p) : wlen l = 0 := by
  have hl : p < l.length := (List.getElem?_eq_some_iff.1 hc).1
  unfold wlen
  rw [if_neg]
  rw [tw_split l p h, drop_cons l p c hc]
  have hd' : (c != 46) = true := by simpa using hd
  rw [List.takeWhile_cons, if_pos hd']
  intro hw
  simp only [wordOk, Bool.and_eq_true, decide_eq_true_eq, List.all_append, List.all_cons, List.length_append, List.length_take, List.length_cons] at hw
  rcases hb with hb | hb
  · rw [hb] at hw; simp at hw
  · omega
theorem take_low (l : List UInt8) (p : Nat) (c : UInt8) (h : (l.take p).all low = true) (hc : l[p]? = some c) (hl : low c = true) : (l.take (p + 1)).all low = true := by
  rw [List.take_add_one, hc]
  simp [List.all_append, h, hl]
theorem low_iff (c : UInt8) : low c = true ↔ 97 ≤ c.toNat ∧ c.toNat ≤ 122 := by simp [low]
theorem low_false (c : UInt8) (h : c.toNat < 97 ∨ 122 < c.toNat) : low c = false := by
  cases hc : low c with
  | false => rfl
  | true => have := (low_iff c).1 hc; omega
structure WInv (l : List UInt8) (ws : List (List UInt8)) (r : List UInt8) : Prop where
  ne : l ≠ []
  sp : splitDot l = ws ++ splitDot r
  ok : ∀ w ∈ ws, wordOk w = true
  le : ws.length ≤ 4
theorem WInv.start {l : List UInt8} (h : l ≠ []) : WInv l [] l := ⟨h, rfl, by simp, by simp⟩
theorem WInv.parts {l ws r} (h : WInv l ws r) : partsL l = ws ++ splitDot r := by unfold partsL; rw [if_neg h.ne, h.sp]
theorem WInv.bad {l ws r} (h : WInv l ws r) (h0 : wlen r = 0) : nameOk l = false := by
  unfold nameOk
  rw [h.parts, List.all_append, wlen_zero r h0]
  simp
theorem WInv.full {l ws r} (h : WInv l ws r) (h0 : ws.length = 4) : nameOk l = false := by
  unfold nameOk
  rw [h.parts, List.length_append, h0]
  have := List.length_pos_iff.2 (splitDot_ne r)
  have e : decide (4 + (splitDot r).length ≤ 4) = false := by simp; omega
  rw [e]; simp
theorem WInv.done {l ws r} (h : WInv l ws r) (h0 : wlen r ≠ 0) (h1 : wlen r = r.length) (h4 : ws.length < 4) : nameOk l = true ∧ partsL l = ws ++ [r.take (wlen r)] := by
  obtain ⟨_, _, _, hw, hs⟩ := wlen_pos r h0
  rcases hs with ⟨_, hs⟩ | ⟨hs, _⟩
  · have e := h.parts
    rw [hs] at e
    refine ⟨(nameOk_iff l).2 ?_, e⟩
    rw [e]
    refine ⟨?_, by simp; omega⟩
    intro w hm
    rcases List.mem_append.1 hm with hm | hm
    · exact h.ok w hm
    · simp at hm; subst hm; exact hw
  · omega
theorem WInv.next {l ws r} (h : WInv l ws r) (h0 : wlen r ≠ 0) (h1 : wlen r ≠ r.length) (h4 : ws.length < 4) :
    wlen r < r.length ∧ WInv l (ws ++ [r.take (wlen r)]) (r.drop (wlen r + 1)) := by
  obtain ⟨_, _, _, hw, hs⟩ := wlen_pos r h0
  rcases hs with ⟨hs, _⟩ | ⟨hl, hs⟩
  · omega
  · refine ⟨hl, h.ne, ?_, ?_, by simp; omega⟩
    · rw [h.sp, hs]; simp
    · intro w hm
      rcases List.mem_append.1 hm with hm | hm
      · exact h.ok w hm
      · simp at hm; subst hm; exact hw
def splitB (s : UInt8) : List UInt8 → List (List UInt8)
  | [] => [[]]
  | c :: r => if c = s then [] :: splitB s r else match splitB s r with
    | [] => [[c]]
    | w :: ws => (c :: w) :: ws
theorem splitB_dot (l : List UInt8) : splitB 46 l = splitDot l := by
  induction l with
  | nil => rfl
  | cons c r ih =>
    simp only [splitB, splitDot, ih]
    try (cases splitDot r <;> rfl)
theorem splitB_app (s : UInt8) (w r : List UInt8) (h : ∀ c ∈ w, c ≠ s) : splitB s (w ++ s :: r) = w :: splitB s r := by
  induction w with
  | nil => simp [splitB]
  | cons c w ih =>
    have hc : c ≠ s := h c (by simp)
    have := ih (fun x hx => h x (by simp [hx]))
    simp [splitB, hc, this]
theorem splitB_one (s : UInt8) (w : List UInt8) (h : ∀ c ∈ w, c ≠ s) : splitB s w = [w] := by
  induction w with
  | nil => simp [splitB]
  | cons c w ih =>
    have hc : c ≠ s := h c (by simp)
    have := ih (fun x hx => h x (by simp [hx]))
    simp [splitB, hc, this]
/-- the loop of splitAt: parts so far, where the next one begins, how far it has looked -/
structure SInv (s : UInt8) (l : List UInt8) (out : List (List UInt8)) (f i : Nat) : Prop where
  le : f ≤ i
  il : i ≤ l.length
  sp : splitB s l = out ++ splitB s (l.drop f)
  no : ∀ c ∈ (l.drop f).take (i - f), c ≠ s
  ln : out.length ≤ f
theorem SInv.start (s : UInt8) (l : List UInt8) : SInv s l [] 0 0 := ⟨Nat.le_refl _, Nat.zero_le _, by simp, by simp, by simp⟩
theorem SInv.hit {s l out f i} (h : SInv s l out f i) (hc : l[i]? = some s) : SInv s l (out ++ [(l.drop f).take (i - f)]) (i + 1) (i + 1) := by
  have hi : i < l.length := (List.getElem?_eq_some_iff.1 hc).1
  refine ⟨Nat.le_refl _, hi, ?_, by simp, by simp; have := h.ln; have := h.le; omega⟩
  have e : l.drop f = (l.drop f).take (i - f) ++ s :: l.drop (i + 1) := by
    have hle := h.le
    have : (l.drop f).drop (i - f) = s :: l.drop (i + 1) := by
      rw [List.drop_drop, show f + (i - f) = i from by omega]
      exact drop_cons l i s hc
    rw [← this, List.take_append_drop]
  rw [h.sp]
  conv => lhs; rw [e]
  rw [splitB_app s _ _ h.no]
  simp
theorem SInv.miss {s l out f i} {c : UInt8} (h : SInv s l out f i) (hc : l[i]? = some c) (hne : c ≠ s) : SInv s l out f (i + 1) := by
  have hi : i < l.length := (List.getElem?_eq_some_iff.1 hc).1
  have hle := h.le
  refine ⟨by omega, hi, h.sp, ?_, h.ln⟩
  intro d hd
  rw [show i + 1 - f = (i - f) + 1 from by omega, List.take_add_one] at hd
  rcases List.mem_append.1 hd with hd | hd
  · exact h.no d hd
  · rw [List.getElem?_drop, show f + (i - f) = i from by omega, hc] at hd
    simp at hd
    subst hd; exact hne
theorem SInv.done {s l out f} (h : SInv s l out f l.length) : splitB s l = out ++ [l.drop f] := by
  rw [h.sp]
  congr 1
  apply splitB_one
  intro c hc
  refine h.no c ?_
  rw [List.take_of_length_le (by simp)]
  exact hc
theorem take_at (l : List UInt8) (i : Nat) (c : UInt8) (h : l[i]? = some c) : l = l.take i ++ c :: l.drop (i + 1) := by
  rw [← drop_cons l i c h, List.take_append_drop]
theorem above_at (l : List UInt8) (i : Nat) (h : l[i]? = some 46) (hn : ∀ c ∈ l.drop (i + 1), c ≠ 46) : l.take i = aboveL l := by
  have hne : l ≠ [] := by rintro rfl; simp at h
  have e : splitDot l = splitDot (l.take i) ++ [l.drop (i + 1)] := by
    conv => lhs; rw [take_at l i 46 h]
    rw [splitDot_pref, splitDot_one _ hn]
  unfold aboveL partsL
  rw [if_neg hne, e, List.dropLast_concat, join_split]
theorem above_none (l : List UInt8) (hn : ∀ c ∈ l, c ≠ 46) : aboveL l = [] := by
  unfold aboveL partsL
  split
  · rfl
  · rw [splitDot_one _ hn]; rfl
theorem pre_iff (p s : List UInt8) : p <+: s ↔ p.length ≤ s.length ∧ s.take p.length = p := by
  constructor
  · intro h; exact ⟨h.length_le, (List.prefix_iff_eq_take.1 h).symm⟩
  · rintro ⟨_, h⟩; rw [← h]; exact List.take_prefix _ _
theorem predot_iff (b a : List UInt8) : (b ++ [46]) <+: a ↔ b.length < a.length ∧ a.take b.length = b ∧ a[b.length]? = some 46 := by
  constructor
  · rintro ⟨r, rfl⟩; simp
  · rintro ⟨_, h, hc⟩
    refine ⟨a.drop (b.length + 1), ?_⟩
    conv => rhs; rw [take_at a b.length 46 hc, h]
    simp
theorem cpre_take (x y : List (List UInt8)) (n : Nat) (hx : n ≤ x.length) (hy : n ≤ y.length) (he : x.take n = y.take n)
    (hs : n = x.length ∨ n = y.length ∨ x[n]? ≠ y[n]?) : cpre x y = x.take n := by
  induction n generalizing x y with
  | zero =>
    cases x with
    | nil => simp [cpre]
    | cons a x =>
      cases y with
      | nil => simp [cpre]
      | cons b y =>
        have : a ≠ b := by rintro rfl; simp at hs
        simp [cpre, this]
  | succ n ih =>
    cases x with
    | nil => simp at hx
    | cons a x =>
      cases y with
      | nil => simp at hy
      | cons b y =>
        simp only [List.take_succ_cons, List.cons.injEq] at he
        obtain ⟨rfl, he⟩ := he
        simp only [cpre, if_true, List.take_succ_cons]
        congr 1
        refine ih x y (by simpa using hx) (by simpa using hy) he ?_
        simpa using hs
theorem take_eq_succ (x y : List (List UInt8)) (n : Nat) (he : x.take n = y.take n) (h : x[n]? = y[n]?) : x.take (n + 1) = y.take (n + 1) := by
  rw [List.take_add_one, List.take_add_one, he, h]
theorem joinL_snoc (a : List (List UInt8)) (w : List UInt8) : joinL (a ++ [w]) = if a = [] then w else joinL a ++ 46 :: w := by
  split
  · rename_i h; subst h; rfl
  · rename_i h; rw [joinL_app a [w] h (by simp)]; rfl
def joinS (s : List UInt8) : List (List UInt8) → List UInt8
  | [] => []
  | [w] => w
  | w :: x :: r => w ++ (s ++ joinS s (x :: r))
theorem joinS_cons (s w : List UInt8) (r : List (List UInt8)) (h : r ≠ []) : joinS s (w :: r) = w ++ (s ++ joinS s r) := by
  cases r with
  | nil => exact absurd rfl h
  | cons x r => rfl
theorem joinS_dot (l : List (List UInt8)) : joinS [46] l = joinL l := by
  induction l with
  | nil => rfl
  | cons w r ih =>
    cases r with
    | nil => rfl
    | cons x r =>
      rw [joinS_cons _ w (x :: r) (by simp), ih, joinL_cons w (x :: r) (by simp)]
      simp only [List.cons_append, List.nil_append]
theorem joinS_snoc (s : List UInt8) (a : List (List UInt8)) (w : List UInt8) : joinS s (a ++ [w]) = if a = [] then w else joinS s a ++ (s ++ w) := by
  induction a with
  | nil => rfl
  | cons x a ih =>
    rw [List.cons_append, joinS_cons _ _ _ (by simp), ih]
    by_cases ha : a = []
    · subst ha; simp [joinS]
    · rw [if_neg ha, if_neg (by simp), joinS_cons _ _ _ ha]; simp [List.append_assoc]
/-- the lengths of all texts together -/
def total (l : List (List UInt8)) : Nat := (l.map List.length).sum
theorem joinS_len (s : List UInt8) (l : List (List UInt8)) : (joinS s l).length ≤ total l + s.length * l.length := by
  induction l with
  | nil => simp [joinS]
  | cons w r ih =>
    by_cases hr : r = []
    · subst hr; simp [joinS, total]
    · rw [joinS_cons _ _ _ hr]
      simp only [List.length_append, List.length_cons, total, List.map_cons, List.sum_cons, Nat.mul_add, Nat.mul_one] at ih ⊢
      omega
theorem total_take (l : List (List UInt8)) (k : Nat) : total (l.take k) ≤ total l := by
  induction l generalizing k with
  | nil => simp
  | cons w r ih =>
    cases k with
    | zero => simp [total]
    | succ k => have := ih k; simp only [total, List.take_succ_cons, List.map_cons, List.sum_cons] at this ⊢; omega
theorem total_split (s : UInt8) (l : List UInt8) : total (splitB s l) + (splitB s l).length = l.length + 1 := by
  induction l with
  | nil => simp [splitB, total]
  | cons c r ih =>
    simp only [splitB]
    split
    · simp only [total, List.map_cons, List.sum_cons, List.length_nil, List.length_cons] at ih ⊢; omega
    · cases h : splitB s r with
      | nil => rw [h] at ih; simp [total] at ih
      | cons w ws => rw [h] at ih; simp only [total, List.map_cons, List.sum_cons, List.length_cons] at ih ⊢; omega
theorem total_parts (l : List UInt8) : total (partsL l) + (partsL l).length ≤ l.length + 1 := by
  unfold partsL
  split
  · simp [total]
  · rw [← splitB_dot, total_split]; exact Nat.le_refl _
end Go.Proofs.YtlifaeleoiodkaaGreatDoor.Nm

/-
  WORDS FOR MEMORY: a slice that reads as a list of cells, wherever it lies below a block; strings as cells; what a call of ours leaves of old memory.
-/
namespace Go.Proofs.YtlifaeleoiodkaaGreatDoor
open Go.RowKit

theorem hid {p : Prop} (h : p) : Hid p := h

theorem ret_int {k : IntKind} {a b : Int} (h : a = b) : Ending.returned (.int k a) = .returned (.int k b) := by rw [h]
theorem ret_bool {a b : Bool} (h : a = b) : Ending.returned (.bool a) = .returned (.bool b) := by rw [h]
theorem ret_str {a b : ByteArray} (h : a = b) : Ending.returned (.string a) = .returned (.string b) := by rw [h]
/-- a text as a cell -/
def txt (l : List UInt8) : Value := .string ⟨l.toArray⟩
theorem txt_data (s : ByteArray) : txt s.data.toList = .string s := by simp [txt]
theorem data_mk (l : List UInt8) : (⟨l.toArray⟩ : ByteArray).data.toList = l := by simp
theorem txt_inj {a b : List UInt8} (h : txt a = txt b) : a = b := by
  simp only [txt, Value.string.injEq, ByteArray.mk.injEq] at h
  exact List.toArray_inj h
theorem bytes_eq_iff (a b : ByteArray) : a.data.toList = b.data.toList ↔ a = b := by
  constructor
  · intro h
    cases a; cases b
    simp only [ByteArray.mk.injEq]
    exact Array.toList_inj.1 h
  · rintro rfl; rfl
theorem beq_txt (a b : ByteArray) : (a.toList == b.toList) = decide (a.data.toList = b.data.toList) := by
  rw [ByteArray.toList_eq, ByteArray.toList_eq, Bool.eq_iff_iff]
  simp only [beq_iff_eq, decide_eq_true_eq]

/-- 'v' is a slice of n elements, each of sz cells; what they hold is xs; they lie below block B. -/
def Sl (w : World) (B sz n : Nat) (v : Value) (xs : List Value) : Prop :=
  xs.length = n * sz ∧ ∃ A c, v = .slice A n c ∧ n ≤ c ∧ c ≤ maxLen ∧ (0 < n → ∃ b o, A = some ⟨b, o, none⟩ ∧ b < B ∧ ∀ j u, xs[j]? = some u → w.cell? ⟨b, o + j, none⟩ = some u)

section
variable {w w' : World} {B B' sz n : Nat} {v : Value} {xs : List Value}
theorem Sl.nil (w : World) (B sz : Nat) : Sl w B sz 0 (.slice none 0 0) [] := ⟨by simp, none, 0, rfl, Nat.le_refl _, Nat.zero_le _, fun h => absurd h (by omega)⟩
theorem Sl.keep (h : Sl w B sz n v xs) (hk : ∀ p : Addr, p.block < B → w'.cell? p = w.cell? p) : Sl w' B sz n v xs := by
  obtain ⟨h1, A, c, h2, h3, h4, h5⟩ := h
  refine ⟨h1, A, c, h2, h3, h4, fun hn => ?_⟩
  obtain ⟨b, o, e, hb, hc⟩ := h5 hn
  exact ⟨b, o, e, hb, fun j u hu => (hk ⟨b, o + j, none⟩ hb).trans (hc j u hu)⟩
theorem Sl.more (h : Sl w B sz n v xs) (hB : B ≤ B') : Sl w B' sz n v xs := by
  obtain ⟨h1, A, c, h2, h3, h4, h5⟩ := h
  refine ⟨h1, A, c, h2, h3, h4, fun hn => ?_⟩
  obtain ⟨b, o, e, hb, hc⟩ := h5 hn
  exact ⟨b, o, e, by omega, hc⟩
theorem Sl.below (h : Sl w B sz n v xs) (hb : Below B' w w') (hB : B ≤ B') : Sl w' B sz n v xs := h.keep fun _ hp => hb.cell (by omega)
theorem Sl.grown {row : Option Nat} (h : Sl w B sz n v xs) (hg : w.grownBy w' row) (hB : B ≤ w.heap.size) (hr : ∀ k, row = some k → B ≤ k) : Sl w' B sz n v xs :=
  h.keep fun p hp => World.cell?_of_block (hg.block p.block (by omega) (fun e => by have := hr _ e.symm; omega))
theorem Sl.of_own {base : Nat} {e : TypeId} (h : w.ownsRow base e sz v n xs) : Sl w w.heap.size sz n v xs := by
  rcases h.2 with ⟨rfl, rfl⟩ | ⟨g, cap, cur, rfl, hb, hg, hnc, hcm, hcs, htake⟩
  · have : xs = [] := List.eq_nil_of_length_eq_zero (by simpa using h.1)
    subst this
    exact Sl.nil _ _ _
  · refine ⟨h.1, _, cap, rfl, hnc, hcm, fun hn => ⟨g, 0, rfl, (Array.getElem?_eq_some_iff.1 hg).1, fun j u hu => ?_⟩⟩
    have := h.cellAt j (by have := (List.getElem?_eq_some_iff.1 hu).1; have := h.1; omega)
    rw [Nat.zero_add, this, hu]
theorem Sl.form (h : Sl w B sz n v xs) : ∃ A c, v = .slice A n c ∧ n ≤ c ∧ c ≤ maxLen := by
  obtain ⟨_, A, c, h2, h3, h4, _⟩ := h
  exact ⟨A, c, h2, h3, h4⟩
end

/-- old memory is as it was, and a streak of further changes -/
theorem below_of_grown {w w' : World} {B : Nat} {row : Option Nat} (hg : w.grownBy w' row) (hB : B ≤ w.heap.size) (hr : ∀ k, row = some k → B ≤ k) : Below B w w' :=
  (Below.refl B w).grown hg hB hr
theorem below_dr {B : Nat} {a w : World} (h : Below B a w) (n : Nat) : Below B a (w.drewN n) := ⟨h.os, h.tape, h.output, h.size, h.block⟩
theorem below_iter {w : World} {B : Nat} (hB : B ≤ w.heap.size) (s : ByteArray) (p : Nat) : Below B w (w.iter s p) := (Below.refl B w).alloc hB _
theorem grown_of {w w' : World} (h : Below w.heap.size w w') (row : Option Nat) : w.grownBy w' row := ⟨h.os, h.tape, h.output, h.size, fun k hk _ => h.block k hk⟩
theorem own_below {w w' : World} {base n sz : Nat} {e : TypeId} {v : Value} {xs : List Value} (h : w.ownsRow base e sz v n xs) (hb : Below w.heap.size w w') : w'.ownsRow base e sz v n xs :=
  h.kept (grown_of hb none) (by cases hv : v.ownBlock <;> simp)
theorem own_lt {w : World} {base n sz : Nat} {e : TypeId} {v : Value} {xs : List Value} (h : w.ownsRow base e sz v n xs) : ∀ k, v.ownBlock = some k → base ≤ k := fun k hk => (h.lt k hk).1
theorem one_new (w : World) (u : Value) (t : TypeId) : ∀ (j : Nat) (x : Value), [u][j]? = some x → (w.alloc (.cells #[u] t)).cell? ((⟨w.heap.size, 0, none⟩ : Addr).add j) = some x := by
  intro j x hj
  match j, hj with
  | 0, hj =>
    simp at hj; subst hj
    rw [Addr.add_lit]
    exact cell_of_row _ _ _ _ _ _ (heap_alloc_new w _)
theorem one_cell {u : Value} (h : u.oneCell' = true) : ∀ x ∈ [u], x.oneCell' = true := by
  intro x hx; simp at hx; subst hx; exact h
theorem many_new (w : World) (us : List Value) (t : TypeId) : ∀ (j : Nat) (x : Value), us[j]? = some x → (w.alloc (.cells us.toArray t)).cell? ((⟨w.heap.size, 0, none⟩ : Addr).add j) = some x := by
  intro j x hj
  rw [Addr.add_lit, Nat.zero_add, cell_of_row _ _ _ _ _ _ (heap_alloc_new w _)]
  simpa using hj
/-- append of one element, which the statement first lays in a block of its own; 'us': its cells. What is left: what is owned behind it, and that nothing below 'base' has turned. -/
theorem wpList_app1 {P : Program} (w : World) {ops : Array Oper} {rest : List Oper} {o : Oper} {a : Act} {Q : Exit → Act → World → Prop}
    (hg : o.guard = none) (s x : Operand) (t : TypeId) (ho : o.op = .call { callee := .builtin .append, args := #[s, x], argTypes := #[t, t] })
    (base : Nat) (e : TypeId) (i : TypeInfo) (z : Value) (size bytes : Nat) (ht : P.underlying t = some (.slice e)) (hi : P.info? e = some i) (hz : i.zero = some z)
    (hsize : i.size = size) (hby : i.bytes = bytes) (hzs : z.cells.size = size) (hsz : 0 < size)
    (v : Value) (n : Nat) (xs : List Value) (hs : a.eval s = v) (hown : w.ownsRow base e size v n xs)
    (us : List Value) (c : Nat) (te : TypeId) (hx : a.eval x = .slice (some ⟨w.heap.size, 0, none⟩) 1 c) (hl : us.length = size) (h1 : ∀ u ∈ us, u.oneCell' = true)
    (h63 : n + 1 ≤ maxLen) (hbytes : (n + 1) * bytes ≤ 140737488355328) (hbase : base ≤ w.heap.size)
    (h : ∀ v' w', w'.ownsRow base e size v' (n + 1) (xs ++ us) → Below base w w' → wpList P ops Q rest (a.put o.dst v') w') :
    wpList P ops Q (o :: rest) a (w.alloc (.cells us.toArray te)) :=
  wpList_append_own _ hg s x t ho base e i z size bytes ht hi hz hsize hby hzs hsz v n xs hs (hown.alloc _) ⟨w.heap.size, 0, none⟩ 1 c us hx (by rw [hl, Nat.one_mul])
    (many_new w us te) h1 h63 hbytes (by simp; omega)
    fun v' w' h2 h3 _ => h v' w' h2 (((Below.refl base w).alloc hbase _).grown h3 (by simp; omega) (own_lt hown))
/-- the cells of a box that a call lays first, in any later world -/
theorem box_cell {w W : World} {xs : Array Value} {T : TypeId} (hb : Below (w.alloc (.cells xs T)).heap.size (w.alloc (.cells xs T)) W) (j : Nat) : W.cell? ⟨w.heap.size, j, none⟩ = xs[j]? :=
  (hb.cell (p := ⟨w.heap.size, j, none⟩) (by simp)).trans (cell_of_row _ w.heap.size j _ _ _ (heap_alloc_new w _))
theorem grown_set (w : World) (b j : Nat) (v : Value) : w.grownBy (w.setCell ⟨b, j, none⟩ v) (some b) :=
  ⟨rfl, rfl, rfl, by simp, fun k _ hk => heap_setCell_other w ⟨b, j, none⟩ k v (fun e => hk (by simp [e]))⟩
theorem own_set_low {w : World} {base n sz b j : Nat} {e : TypeId} {v u : Value} {xs : List Value} (h : w.ownsRow base e sz v n xs) (hb : b < base) : (w.setCell ⟨b, j, none⟩ u).ownsRow base e sz v n xs :=
  h.kept (grown_set w b j u) (by
    cases hq : v.ownBlock with
    | none => exact .inl rfl
    | some g => right; intro e; cases e; have := (h.lt _ hq).1; omega)
/-- a block of cells that the call lays for itself: what it holds, and that it may be written -/
def Blk (w : World) (b : Nat) (cs : List Value) : Prop := b < w.heap.size ∧ ∀ j u, cs[j]? = some u → w.cell? ⟨b, j, none⟩ = some u ∧ w.frozen? ⟨b, j, none⟩ = false
section
variable {w w' : World} {b : Nat} {cs : List Value}
theorem Blk.new (w : World) (cs : Array Value) (T : TypeId) : Blk (w.alloc (.cells cs T)) w.heap.size cs.toList :=
  ⟨by simp, fun j u hu => ⟨(cell_of_row _ w.heap.size j _ _ _ (heap_alloc_new w _)).trans (by simpa using hu), by simp⟩⟩
theorem Blk.below {B : Nat} (h : Blk w b cs) (hb : Below B w w') (hB : b < B) : Blk w' b cs :=
  ⟨Nat.lt_of_lt_of_le h.1 hb.size, fun j u hu => ⟨(hb.cell (p := ⟨b, j, none⟩) hB).trans (h.2 j u hu).1, (hb.frozen (p := ⟨b, j, none⟩) hB).trans (h.2 j u hu).2⟩⟩
theorem Blk.alloc (h : Blk w b cs) (o : Obj) : Blk (w.alloc o) b cs := h.below ((Below.refl w.heap.size w).alloc (Nat.le_refl _) o) h.1
theorem Blk.dr (h : Blk w b cs) (n : Nat) : Blk (w.drewN n) b cs := h.below (below_dr (Below.refl w.heap.size w) n) h.1
theorem Blk.to (h : Blk w b cs) (hb : Below w.heap.size w w') : Blk w' b cs := h.below hb h.1
theorem Blk.set (h : Blk w b cs) (j : Nat) (v : Value) : Blk (w.setCell ⟨b, j, none⟩ v) b (cs.set j v) := by
  refine ⟨by simpa using h.1, fun i u hu => ?_⟩
  by_cases hij : j = i
  · subst hij
    rw [List.getElem?_set] at hu
    rw [if_pos rfl] at hu
    split at hu
    · rename_i hl
      obtain rfl : v = u := by simpa using hu
      have hx := h.2 j _ (List.getElem?_eq_getElem hl)
      exact ⟨World.cell?_setCell_same _ _ _ hx.1, by simpa using hx.2⟩
    · cases hu
  · rw [List.getElem?_set, if_neg hij] at hu
    have hx := h.2 i u hu
    exact ⟨(World.cell?_setCell_other _ _ _ _ (by intro e; cases e; exact hij rfl)).trans hx.1, by simpa using hx.2⟩
theorem Blk.apart (h : Blk w b cs) (p : Addr) (v : Value) (hp : p.block ≠ b) : Blk (w.setCell p v) b cs := by
  refine ⟨by simpa using h.1, fun i u hu => ?_⟩
  have hx := h.2 i u hu
  exact ⟨(World.cell?_setCell_other _ _ _ _ (by intro e; exact hp (by rw [e]))).trans hx.1, by simpa using hx.2⟩
theorem Blk.kept {row : Option Nat} (h : Blk w b cs) (hg : w.grownBy w' row) (hne : some b ≠ row) : Blk w' b cs := by
  have hb := hg.block b h.1 hne
  exact ⟨Nat.lt_of_lt_of_le h.1 hg.size, fun j u hu => ⟨(World.cell?_of_block hb).trans (h.2 j u hu).1, (World.frozen?_of_block hb).trans (h.2 j u hu).2⟩⟩
end
theorem own_base {w : World} {base base' n sz : Nat} {e : TypeId} {v : Value} {xs : List Value} (h : w.ownsRow base e sz v n xs) (hb : base' ≤ base) : w.ownsRow base' e sz v n xs := by
  refine ⟨h.1, ?_⟩
  rcases h.2 with hn | ⟨g, cap, cur, rfl, hg, r⟩
  · exact .inl hn
  · exact .inr ⟨g, cap, cur, rfl, by omega, r⟩
end Go.Proofs.YtlifaeleoiodkaaGreatDoor

/-
  append of a whole slice, wherever it lies, nil and empty too.
-/
namespace Go.Proofs.YtlifaeleoiodkaaGreatDoor
open Go.RowKit
set_option linter.unusedSimpArgs false
set_option linter.unusedVariables false

theorem run_app_none {P : Program} {w : World} (base : Nat) (t ty e : TypeId) (i : TypeInfo) (size c : Nat) (ht : P.underlying t = some (.slice e)) (hi : P.info? e = some i)
    (v : Value) (n : Nat) (xs : List Value) (hown : w.ownsRow base e size v n xs) : (Builtin.append_ #[t, t] ty #[v, .slice none 0 c]).run P w = .ok v w := by
  rcases hown.2 with ⟨rfl, rfl⟩ | ⟨g, cap, cur, rfl, _, _, hnc, _⟩
  · simp [Builtin.append_, run_underlying ht, sizeOf, typeInfo, hi, Builtin.lenOf, Builtin.firstCells]
  · simp [Builtin.append_, run_underlying ht, sizeOf, typeInfo, hi, Builtin.lenOf, Builtin.firstCells, hnc, storeCells]
theorem wpList_appSl {P : Program} (w : World) {ops : Array Oper} {rest : List Oper} {o : Oper} {a : Act} {Q : Exit → Act → World → Prop}
    (hg : o.guard = none) (s x : Operand) (t : TypeId) (ho : o.op = .call { callee := .builtin .append, args := #[s, x], argTypes := #[t, t] })
    (base : Nat) (e : TypeId) (i : TypeInfo) (z : Value) (size bytes : Nat) (ht : P.underlying t = some (.slice e)) (hi : P.info? e = some i) (hz : i.zero = some z)
    (hsize : i.size = size) (hby : i.bytes = bytes) (hzs : z.cells.size = size) (hsz : 0 < size)
    (v : Value) (n : Nat) (xs : List Value) (hs : a.eval s = v) (hown : w.ownsRow base e size v n xs)
    (B m : Nat) (src : Value) (ys : List Value) (hx : a.eval x = src) (hsl : Sl w B size m src ys) (h1 : ∀ u ∈ ys, u.oneCell' = true)
    (h63 : n + m ≤ maxLen) (hbytes : (n + m) * bytes ≤ 140737488355328) (hbase : base ≤ w.heap.size)
    (h : ∀ v' w', w'.ownsRow base e size v' (n + m) (xs ++ ys) → Below base w w' → wpList P ops Q rest (a.put o.dst v') w') :
    wpList P ops Q (o :: rest) a w := by
  obtain ⟨hl, A, c, rfl, hmc, hcm, hA⟩ := hsl
  cases A with
  | some ad =>
    refine wpList_append_own w hg s x t ho base e i z size bytes ht hi hz hsize hby hzs hsz v n xs hs hown ad m c ys hx hl ?_ h1 h63 hbytes hbase fun v' w' h2 h3 _ => h v' w' h2 (below_of_grown h3 hbase (own_lt hown))
    intro j u hu
    have hj := (List.getElem?_eq_some_iff.1 hu).1
    have hm0 : 0 < m := by
      rcases Nat.eq_zero_or_pos m with h0 | h0
      · subst h0; rw [Nat.zero_mul] at hl; omega
      · exact h0
    obtain ⟨b, o', e1, _, hc⟩ := hA hm0
    have e2 : ad = ⟨b, o', none⟩ := Option.some.inj e1
    subst e2
    rw [Addr.add_lit]; exact hc j u hu
  | none =>
    have hm0 : m = 0 := by
      rcases Nat.eq_zero_or_pos m with h0 | h0
      · exact h0
      · obtain ⟨b, o', e1, _⟩ := hA h0; cases e1
    subst hm0
    have hy : ys = [] := List.eq_nil_of_length_eq_zero (by rw [hl, Nat.zero_mul])
    subst hy
    refine wpList_plain hg fun K hK => ?_
    have hrun := run_app_none (P := P) (w := w) base t o.type e i size c ht hi v n xs hown
    unfold Oper.wp
    simp [execOp, ho, resolve, invoke, builtin, hs, hx, hrun, Result.andThen]
    exact hK _ _ (h v w (by simpa using hown) (Below.refl _ _))
/-- a slice without its first k elements -/
theorem Sl.from_ {w : World} {B d n c : Nat} {b o : Nat} {xs : List Value} (h : Sl w B d n (.slice (some ⟨b, o, none⟩) n c) xs) {k : Nat} (hk : k ≤ n) :
    Sl w B d (n - k) (.slice (some ⟨b, o + k * d, none⟩) (n - k) (c - k)) (xs.drop (k * d)) := by
  obtain ⟨hl, A', c', he, h2, h3, h4⟩ := h
  obtain ⟨rfl, rfl⟩ : some ⟨b, o, none⟩ = A' ∧ c = c' := by simpa using he
  refine ⟨by rw [List.length_drop, hl, Nat.sub_mul], _, _, rfl, by omega, by omega, fun hn => ?_⟩
  obtain ⟨b', o', e, hb, hc⟩ := h4 (by omega)
  obtain ⟨rfl, rfl⟩ : b = b' ∧ o = o' := by simpa using e
  exact ⟨b, _, rfl, hb, fun j u hu => by rw [Nat.add_assoc]; exact hc _ u (by rw [List.getElem?_drop] at hu; exact hu)⟩
theorem Sl.cap {w : World} {B d n c : Nat} {A : Option Addr} {xs : List Value} (h : Sl w B d n (.slice A n c) xs) : n ≤ c ∧ c ≤ maxLen := by
  obtain ⟨_, A', c', he, h2, h3, _⟩ := h
  obtain ⟨rfl, rfl⟩ : A = A' ∧ c = c' := by simpa using he
  exact ⟨h2, h3⟩
theorem flat_drop {α : Type} (f : α → List Value) (d : Nat) (hf : ∀ x, (f x).length = d) (l : List α) (k : Nat) : (l.flatMap f).drop (k * d) = (l.drop k).flatMap f := by
  induction k generalizing l with
  | zero => simp
  | succ k ih =>
    cases l with
    | nil => simp
    | cons x l =>
      rw [List.flatMap_cons, List.drop_succ_cons, ← ih l, Nat.add_mul, Nat.one_mul, Nat.add_comm, ← List.drop_drop]
      congr 1
      rw [← hf x, List.drop_left]
end Go.Proofs.YtlifaeleoiodkaaGreatDoor

/-
  WALKS: the words of a name (impl.wordLength, impl.wordsOf, impl.ValidName, impl.PartsOf).
-/
namespace Go.Proofs.YtlifaeleoiodkaaGreatDoor
open Go.RowKit Nm

theorem dec_cases (s : ByteArray) (p : Nat) (h : p < s.size) : ∃ c, s.data.toList[p]? = some c ∧
    ((c.toNat < 128 ∧ Utf8.decode s p = (c.toNat, 1)) ∨ (128 ≤ c.toNat ∧ 128 ≤ (Utf8.decode s p).1)) := by
  refine ⟨s[p], Lib.data_getElem? s p h, ?_⟩
  by_cases ha : (s[p]'h).toNat < 128
  · exact .inl ⟨ha, decode_ascii s p h ha⟩
  · exact .inr ⟨by omega, (decode_high s p h (by omega)).1⟩
theorem wl_stop (s : ByteArray) (p : Nat) (h : p < s.size) (h4 : p ≤ 4) (hl : (s.data.toList.take p).all low = true) (e : ((Utf8.decode s p).1 : Int) = 46) : wlen s.data.toList = p := by
  obtain ⟨c, hc, ⟨_, hd⟩ | ⟨_, hd⟩⟩ := dec_cases s p h
  · rw [hd] at e
    have : c = 46 := UInt8.toNat_inj.1 (by simp at e ⊢; omega)
    subst this
    exact wlen_stop _ _ hl h4 hc
  · omega
theorem wl_bad (s : ByteArray) (p : Nat) (h : p < s.size) (hl : (s.data.toList.take p).all low = true) (e : ¬ ((Utf8.decode s p).1 : Int) = 46)
    (hb : ((Utf8.decode s p).1 : Int) < 97 ∨ 122 < ((Utf8.decode s p).1 : Int) ∨ 4 ≤ p) : wlen s.data.toList = 0 := by
  obtain ⟨c, hc, ⟨_, hd⟩ | ⟨ha, hd⟩⟩ := dec_cases s p h
  · rw [hd] at e hb
    refine wlen_bad _ p c hl hc (by rintro rfl; simp at e) ?_
    rcases hb with hb | hb | hb
    · exact .inl (low_false c (by simp at hb; omega))
    · exact .inl (low_false c (by simp at hb; omega))
    · exact .inr hb
  · exact wlen_bad _ p c hl hc (by rintro rfl; simp at ha) (.inl (low_false c (by omega)))
theorem wl_go (s : ByteArray) (p : Nat) (h : p < s.size) (hl : (s.data.toList.take p).all low = true) (h1 : 97 ≤ ((Utf8.decode s p).1 : Int)) (h2 : ((Utf8.decode s p).1 : Int) ≤ 122) :
    (Utf8.decode s p).2 = 1 ∧ (s.data.toList.take (p + 1)).all low = true := by
  obtain ⟨c, hc, ⟨_, hd⟩ | ⟨ha, hd⟩⟩ := dec_cases s p h
  · rw [hd] at h1 h2 ⊢
    exact ⟨rfl, take_low _ p c hl hc ((low_iff c).2 (by simp at h1 h2; omega))⟩
  · omega

set_option maxHeartbeats 1000000 in
set_option maxRecDepth 100000 in
theorem wordLength_c (s : ByteArray) (w : World) (hs : s.size ≤ maxLen) :
    Calls Tryz.prog 122 #[.string s] w fun e w' => e = .returned (.int .i64 (wlen s.data.toList)) ∧ Below w.heap.size w w' := by
  unfold maxLen at hs
  go_enter Tryz.func122, Tryz.ntmps122
  go_wp2
  go_step3
  go_wp2
  go_step3
  go_wp2
  go_loopw [3] (fun n wr => ∃ p : Nat, wr = w.iter s p ∧ p ≤ s.size ∧ p ≤ 4 ∧ n = .int .i64 p ∧ (s.data.toList.take p).all low = true) (fun _ wr => s.size - wr.iterPos w.heap.size)
  case atStart => exact ⟨0, rfl, by omega, by omega, rfl, by simp⟩
  case round =>
    obtain ⟨p, rfl, hp, h4, rfl, hlow⟩ := hrel
    by_cases hlt : p < s.size
    · have hnx : ∀ ty, (Instr.next (.pointer (some ⟨w.heap.size, 0, none⟩)) true ty).run Tryz.prog (w.iter s p) = _ := fun ty => run_next_any w s p ty hlt
      have hd := decode_le s p
      have HL := hid hlow
      clear hlow
      go_wp2
      all_goals first
        | (refine ⟨⟨p + 1, ?_, by omega, ?_, by go_num, ?_⟩, ?_⟩
           all_goals
             obtain ⟨e2, e3⟩ := wl_go s p hlt HL.out (by assumption) (by assumption)
           · rw [e2]
           · have : ¬ p = 4 := by
               rintro rfl
               have : ¬ (97 ≤ ((Utf8.decode s 4).1 : Int) ∧ ((Utf8.decode s 4).1 : Int) ≤ 122 ∧ True) := by simp_all
               simp_all
             omega
           · exact e3
           · rw [e2]; simp; omega)
        | (have e1 : (((Utf8.decode s p).1 : Int) == 46) = true := by assumption
           rw [Exit.noGoto_ret]
           go_ret
           exact ⟨ret_int (by rw [wl_stop s p hlt h4 HL.out (by simpa using e1)]), below_iter (Nat.le_refl _) _ _⟩)
        | (have e1 : (((Utf8.decode s p).1 : Int) == 46) = false := by assumption
           have e2 : ((Utf8.decode s p).1 : Int) < 97 ∨ 122 < ((Utf8.decode s p).1 : Int) ∨ 4 ≤ p := by
             first
               | omega
               | (rename_i h; simp at h; omega)
           try rw [Exit.noGoto_ret]
           go_ret
           exact ⟨ret_int (by rw [wl_bad s p hlt HL.out (by simpa using e1) e2]; rfl), below_iter (Nat.le_refl _) _ _⟩)
    · have hnx : ∀ ty, (Instr.next (.pointer (some ⟨w.heap.size, 0, none⟩)) true ty).run Tryz.prog (w.iter s p) = _ := fun ty => run_next_end w s p ty hlt
      have HL := hid hlow
      clear hlow
      go_wp2
      rw [Exit.noGoto_ret]
      go_ret
      have e : p = s.size := by omega
      subst e
      refine ⟨ret_int ?_, below_iter (Nat.le_refl _) _ _⟩
      rw [wlen_end _ (by have := HL.out; rwa [List.take_of_length_le (by rw [← Lib.size_eq]; exact Nat.le_refl _)] at this) (by rw [← Lib.size_eq]; exact h4), ← Lib.size_eq]

theorem Tryz.infoStr : (Tryz.prog.info? 9).map (fun i => (i.zero, i.size, i.bytes)) = some (some (.string ByteArray.empty), 1, 16) := by kernel_rfl
theorem own_txt (w : World) (base n : Nat) (v : Value) (ws : List (List UInt8)) (l : List UInt8) (h : w.ownsRow base 9 1 v (n + 1) (ws.map txt ++ [txt l])) (hn : n = ws.length) :
    w.ownsRow base 9 1 v (ws ++ [l]).length ((ws ++ [l]).map txt) := by
  subst hn
  simpa using h
/-- the words of a name, none for other texts -/
def pw (l : List UInt8) : List (List UInt8) := if nameOk l then partsL l else []
def WordsPost (w : World) (l : List UInt8) (e : Ending) (w' : World) : Prop :=
  ∃ v, e = .returned (.tuple #[v, .bool (nameOk l)]) ∧ w'.ownsRow w.heap.size 9 1 v (pw l).length ((pw l).map txt) ∧ Below w.heap.size w w'
theorem words_none (w w' : World) (l : List UInt8) (h : nameOk l = false) (hb : Below w.heap.size w w') : WordsPost w l (.returned (.tuple #[.slice none 0 0, .bool false])) w' := by
  refine ⟨_, by rw [h], ?_, hb⟩
  rw [pw, h]; exact World.ownsRow_nil _ _ _ _
theorem words_root (w w' : World) (l : List UInt8) (h : l = []) (hb : Below w.heap.size w w') : WordsPost w l (.returned (.tuple #[.slice none 0 0, .bool true])) w' := by
  subst h
  exact ⟨_, rfl, World.ownsRow_nil _ _ _ _, hb⟩
theorem words_some (w w' : World) (l : List UInt8) (v : Value) (ws : List (List UInt8)) (h : nameOk l = true ∧ partsL l = ws) (ho : w'.ownsRow w.heap.size 9 1 v ws.length (ws.map txt)) (hb : Below w.heap.size w w') :
    WordsPost w l (.returned (.tuple #[v, .bool true])) w' := by
  refine ⟨v, by rw [h.1], ?_, hb⟩
  rw [pw, h.1, h.2]; exact ho

set_option maxHeartbeats 1000000 in
set_option maxRecDepth 100000 in
theorem wordsOf_c (s : ByteArray) (w : World) (hs : s.size ≤ maxLen) :
    Calls Tryz.prog 124 #[.string s] w (WordsPost w s.data.toList) := by
  unfold maxLen at hs
  obtain ⟨i0, hi, hz0, hz1, hz2⟩ := info_parts Tryz.infoStr
  by_cases hne : s.data.toList = []
  · have he : s.toList.isEmpty = true := by rw [ByteArray.toList_eq, hne]; rfl
    go_enter Tryz.func124, Tryz.ntmps124
    go_wp2_with fail
    go_ret2
    exact words_root w _ _ hne (Below.refl _ _)
  have he : s.toList.isEmpty = false := by
    rw [ByteArray.toList_eq]
    cases h : s.data.toList with
    | nil => exact absurd h hne
    | cons a l => rfl
  have HN := hid hne
  clear hne
  go_enter Tryz.func124, Tryz.ntmps124
  go_wp2_with fail
  go_loopg [0, 4] 4 (fun g sv v wr => ∃ (r : ByteArray) (ws : List (List UInt8)), sv = .string r ∧ WInv s.data.toList ws r.data.toList ∧ r.size ≤ s.size ∧
    wr.ownsRow w.heap.size 9 1 v ws.length (ws.map txt) ∧ Below w.heap.size w wr ∧ ws.length + g = 4)
  case atStart => exact ⟨s, [], rfl, WInv.start HN.out, Nat.le_refl _, World.ownsRow_nil _ _ _ _, Below.refl _ _, by simp⟩
  case round =>
    obtain ⟨r, ws, rfl, hI, hrs, hown, hb, hg⟩ := hrel
    obtain ⟨A, c, rfl, hnc, hcm⟩ := (Sl.of_own hown).form
    have HG := hid hg
    by_cases h4 : ws.length < 4
    · have hcall := wordLength_c r wr (by unfold maxLen; omega)
      obtain ⟨n, hn⟩ : ∃ n, wlen r.data.toList = n := ⟨_, rfl⟩
      have hnr : n ≤ r.size := by
        by_cases h0 : wlen r.data.toList = 0
        · omega
        · have := (wlen_pos _ h0).2.2.1; rw [hn, ← Lib.size_eq] at this; exact this
      rw [hn] at hcall
      have HN1 := hid hn
      clear hn hg
      by_cases h0 : n = 0
      · have b0 : ((n : Int) == 0) = true := by rw [h0]; rfl
        have H0 := hid h0
        clear h0
        go_wp2_with fail
        refine hcall.mono ?_
        rintro e w1 ⟨rfl, hb1⟩
        go_wp2_with fail
        go_ret2
        refine words_none _ _ _ (hI.bad (by rw [HN1.out]; exact H0.out)) (hb.trans (hb1.mono hb.size))
      have b0 : ((n : Int) == 0) = false := by simpa using h0
      have h0' : n ≠ 0 := h0
      by_cases h1 : (n : Int) = (r.size : Int)
      · have b1 : ((n : Int) == (r.size : Int)) = true := by simpa using h1
        have hx : r.extract 0 n = ⟨(r.data.toList.take n).toArray⟩ := by rw [Lib.extract_eq]; simp
        have fin := hI.done (by rw [HN1.out]; exact h0') (by rw [HN1.out, ← Lib.size_eq]; omega) h4
        rw [HN1.out] at fin
        have F := hid (And.intro fin hx)
        clear h1 fin hx
        go_wp2_with fail
        refine hcall.mono ?_
        rintro e w1 ⟨rfl, hb1⟩
        have hown1 := own_below hown hb1
        go_wp2_with (at_builtin; refine wpList_app1 w1 rfl (.tmp 15) (.tmp 19) 102 rfl w.heap.size 9 i0 (.string ByteArray.empty) 1 16 Tryz.underlying102 hi hz0 hz1 hz2 rfl (by decide) _ _ _ (by rfl) hown1 [.string (r.extract 0 n)] 1 9 (by rfl) rfl (one_cell rfl) (by unfold maxLen; omega) (by omega) (by have := hb.size; have := hb1.size; omega) ?_)
        intro v' w2 hown2 hb2
        have hB := hb.trans ((hb1.mono hb.size).trans hb2)
        obtain ⟨fin, hx⟩ := F.out
        rw [hx] at hown2
        have R := words_some w w2 s.data.toList v' _ fin (own_txt _ _ _ _ _ _ hown2 rfl) hB
        clear hown2 hb2 hown1 hown hB fin hx F HN1
        have R1 := hid R
        clear R
        go_wp2_with fail
        go_ret2
        exact R1.out
      · have b1 : ((n : Int) == (r.size : Int)) = false := by simpa using h1
        have hx : r.extract 0 n = ⟨(r.data.toList.take n).toArray⟩ := by rw [Lib.extract_eq]; simp
        obtain ⟨hlt, hI2⟩ := hI.next (by rw [HN1.out]; exact h0') (by rw [HN1.out, ← Lib.size_eq]; omega) h4
        rw [HN1.out] at hlt hI2
        rw [← Lib.size_eq] at hlt
        have F := hid hx
        have HI := hid hI2
        have hL := HG.out
        clear h1 hx hI2 hI
        go_wp2_with fail
        refine hcall.mono ?_
        rintro e w1 ⟨rfl, hb1⟩
        have hown1 := own_below hown hb1
        go_wp2_with (at_builtin; refine wpList_app1 w1 rfl (.tmp 15) (.tmp 19) 102 rfl w.heap.size 9 i0 (.string ByteArray.empty) 1 16 Tryz.underlying102 hi hz0 hz1 hz2 rfl (by decide) _ _ _ (by rfl) hown1 [.string (r.extract 0 n)] 1 9 (by rfl) rfl (one_cell rfl) (by unfold maxLen; omega) (by omega) (by have := hb.size; have := hb1.size; omega) ?_)
        intro v' w2 hown2 hb2
        have hB := hb.trans ((hb1.mono hb.size).trans hb2)
        rw [F.out] at hown2
        have R := own_txt _ _ _ _ _ _ hown2 rfl
        clear hown2 hb2 hown1 hown hL
        go_wp2_with fail
        have hG := HG.out
        go_roundg (3 - ws.length)
        case measure => omega
        case rel => exact ⟨_, ws ++ [r.data.toList.take n], rfl, by rw [Lib.extract_to_end]; exact HI.out, by simp; omega, R, hB, by simp; omega⟩
    · have hg0 : ws.length = 4 := by omega
      have H0 := hid hg0
      clear hg hg0
      go_wp2_with fail
      go_ret2
      exact words_none _ _ _ (hI.full H0.out) hb
end Go.Proofs.YtlifaeleoiodkaaGreatDoor

/-
  WALKS: impl.ValidName, impl.PartsOf; the model's own words of a name (spec.validWord, splitAt, parts, validName).
-/
namespace Go.Proofs.YtlifaeleoiodkaaGreatDoor
open Go.RowKit Nm
set_option linter.unusedSimpArgs false
set_option linter.unusedVariables false

def StrsPost (w : World) (ws : List (List UInt8)) (e : Ending) (w' : World) : Prop :=
  ∃ v, e = .returned v ∧ w'.ownsRow w.heap.size 9 1 v ws.length (ws.map txt) ∧ Below w.heap.size w w'
def BoolPost (w : World) (b : Bool) (e : Ending) (w' : World) : Prop := e = .returned (.bool b) ∧ Below w.heap.size w w'

set_option maxHeartbeats 400000 in
set_option maxRecDepth 100000 in
theorem implValidName_c (s : ByteArray) (w : World) (hs : s.size ≤ maxLen) :
    Calls Tryz.prog 98 #[.string s] w (BoolPost w (nameOk s.data.toList)) := by
  go_enter Tryz.func98, Tryz.ntmps98
  go_wp2_with fail
  refine (wordsOf_c s w hs).mono ?_
  rintro e w1 ⟨v, rfl, _, hb⟩
  go_wp2_with fail
  go_ret
  exact ⟨rfl, hb⟩

theorem inRange_c (a b c : Int) (w : World) :
    Calls Tryz.prog 66 #[.int .i64 a, .int .i64 b, .int .i64 c] w fun e w' => e = .returned (.bool (decide (b ≤ a) && decide (a ≤ c))) ∧ w' = w := by
  by_cases h1 : b ≤ a
  · by_cases h2 : a ≤ c
    · go_enter Tryz.func66, Tryz.ntmps66
      go_wp2
      all_goals go_ret
      all_goals exact ⟨ret_bool (by simp [h1, h2]), rfl⟩
    · have h2' : c < a := by omega
      go_enter Tryz.func66, Tryz.ntmps66
      go_wp2
      all_goals go_ret
      all_goals exact ⟨ret_bool (by simp [h1, h2]), rfl⟩
  · have h1' : a < b := by omega
    go_enter Tryz.func66, Tryz.ntmps66
    go_wp2
    all_goals go_ret
    all_goals exact ⟨ret_bool (by rw [show decide (b ≤ a) = false from decide_eq_false (by omega)]; rfl), rfl⟩

theorem byte_at (s : ByteArray) (k : Nat) (h : k < s.size) : s.data.toList[k]? = some s[k] := Lib.data_getElem? s k h
theorem vw_bad (s : ByteArray) (k : Nat) (h : k < s.size) (hb : ((s[k]'h).toNat : Int) < 97 ∨ 122 < ((s[k]'h).toNat : Int)) : wordOk s.data.toList = false := by
  cases hw : wordOk s.data.toList with
  | false => rfl
  | true =>
    simp only [wordOk, Bool.and_eq_true, List.all_eq_true] at hw
    have := (low_iff _).1 (hw.1 _ (List.mem_of_getElem? (byte_at s k h)))
    omega
theorem vw_end (s : ByteArray) (h : s.data.toList.all low = true) : wordOk s.data.toList = (decide ((1 : Int) ≤ (s.size : Int)) && decide ((s.size : Int) ≤ 4)) := by
  unfold wordOk
  rw [h, ← Lib.size_eq, Bool.true_and]
  congr 1 <;> (apply decide_eq_decide.2; omega)

set_option maxHeartbeats 1000000 in
set_option maxRecDepth 100000 in
theorem validWord_c (s : ByteArray) (w : World) (hs : s.size ≤ maxLen) :
    Calls Tryz.prog 69 #[.string s] w fun e w' => e = .returned (.bool (wordOk s.data.toList)) ∧ w' = w := by
  unfold maxLen at hs
  go_enter Tryz.func69, Tryz.ntmps69
  go_wp2_with fail
  go_loop [3] (fun i => ∃ k : Nat, i = .int .i64 k ∧ k ≤ s.size ∧ (s.data.toList.take k).all low = true) (fun i => s.size - (intOf i).toNat)
  case atStart => exact ⟨0, rfl, by omega, by simp⟩
  case round =>
    obtain ⟨k, rfl, hk, hl⟩ := hrel
    have HL := hid hl
    clear hl
    by_cases hlt : k < s.size
    · have hb : 0 ≤ ((s[k]'hlt).toNat : Int) ∧ ((s[k]'hlt).toNat : Int) < 256 := by have := (s[k]'hlt).toNat_lt; omega
      go_wp2_with fail
      all_goals first
        | (refine ⟨⟨k + 1, by go_num, by omega, ?_⟩, by simp [intOf]; omega⟩
           exact take_low _ k _ HL.out (byte_at s k hlt) ((low_iff _).2 (by omega)))
        | (go_ret
           exact ⟨ret_bool (by rw [vw_bad s k hlt (by omega)]), rfl⟩)
    · have e : k = s.size := by omega
      subst e
      go_wp2_with fail
      refine (inRange_c _ _ _ _).mono ?_
      rintro e w1 ⟨rfl, rfl⟩
      go_wp2_with fail
      go_ret
      refine ⟨ret_bool ?_, rfl⟩
      rw [vw_end s (by have := HL.out; rwa [List.take_of_length_le (by rw [← Lib.size_eq]; exact Nat.le_refl _)] at this)]

set_option maxHeartbeats 1000000 in
set_option maxRecDepth 100000 in
theorem splitAt_c (s : ByteArray) (c : UInt8) (w : World) (hs : s.size ≤ 1048576) :
    Calls Tryz.prog 129 #[.string s, .int .u8 (c.toNat : Int)] w (StrsPost w (splitB c s.data.toList)) := by
  obtain ⟨i0, hi, hz0, hz1, hz2⟩ := info_parts Tryz.infoStr
  go_enter Tryz.func129, Tryz.ntmps129
  go_wp2_with fail
  go_loopw [5, 6, 7] (fun v f i wr => ∃ (out : List (List UInt8)) (a b : Nat), i = .int .i64 b ∧ f = .int .i64 a ∧ SInv c s.data.toList out a b ∧
    wr.ownsRow w.heap.size 9 1 v out.length (out.map txt) ∧ Below w.heap.size w wr) (fun _ _ i _ => s.size - (intOf i).toNat)
  case atStart => exact ⟨[], 0, 0, rfl, rfl, SInv.start _ _, World.ownsRow_lit w #[] 0 (Nat.le_refl _) (by unfold maxLen; omega) rfl, (Below.refl _ _).alloc (Nat.le_refl _) _⟩
  case round =>
    obtain ⟨out, a, b, rfl, rfl, hI, hown, hb⟩ := hrel
    have hab := hI.le
    have hbl := hI.il
    rw [← Lib.size_eq] at hbl
    have hln := hI.ln
    obtain ⟨A, cp, rfl, hnc, hcm⟩ := (Sl.of_own hown).form
    by_cases hlt : b < s.size
    · have hx : txt ((s.data.toList.drop a).take (b - a)) = .string (s.extract a b) := by rw [Lib.extract_eq]; rfl
      by_cases hc : s[b]'hlt = c
      · have hI2 := hI.hit (by rw [byte_at s b hlt, hc])
        have b1 : (((s[b]'hlt).toNat : Int) == (c.toNat : Int)) = true := by rw [hc]; simp
        have HX := hid (And.intro hx hI2)
        have HC := hid hc
        clear hx hI2 hI hc
        go_wp2_with (at_builtin; refine wpList_app1 wr rfl (.tmp 20) (.tmp 25) 102 rfl w.heap.size 9 i0 (.string ByteArray.empty) 1 16 Tryz.underlying102 hi hz0 hz1 hz2 rfl (by decide) _ _ _ (by rfl) hown [.string (s.extract a b)] 1 9 (by rfl) rfl (one_cell rfl) (by unfold maxLen; omega) (by omega) hb.size ?_)
        intro v' w2 hown2 hb2
        have hB := hb.trans hb2
        obtain ⟨hx, hI2⟩ := HX.out
        rw [← hx] at hown2
        have R := own_txt _ _ _ _ _ _ hown2 rfl
        clear hown2 hb2 hown hx HX
        go_wp2_with fail
        go_roundw
        case rel => exact ⟨_, b + 1, b + 1, by go_num, by go_num, hI2, R, hB⟩
        case measure => simp [intOf]; omega
      · have hI2 := hI.miss (byte_at s b hlt) hc
        have b1 : (((s[b]'hlt).toNat : Int) == (c.toNat : Int)) = false := by
          rw [beq_eq_false_iff_ne]; intro e; exact hc (UInt8.toNat_inj.1 (by omega))
        have HX := hid (And.intro hI2 hown)
        clear hx hI2 hI hc hown
        go_wp2_with fail
        go_roundw
        case rel => exact ⟨out, a, b + 1, by go_num, rfl, HX.out.1, HX.out.2, hb⟩
        case measure => simp [intOf]; omega
    · have e : b = s.size := by omega
      subst e
      have fin : splitB c s.data.toList = out ++ [s.data.toList.drop a] := by
        have h2 := hI
        rw [Lib.size_eq] at h2
        exact h2.done
      have hx : txt (s.data.toList.drop a) = .string (s.extract a s.size) := by
        rw [Lib.extract_eq, Lib.size_eq, ← List.length_drop, List.take_length]; rfl
      have HX := hid (And.intro fin hx)
      clear fin hx hI
      go_wp2_with (at_builtin; refine wpList_app1 wr rfl (.tmp 29) (.tmp 33) 102 rfl w.heap.size 9 i0 (.string ByteArray.empty) 1 16 Tryz.underlying102 hi hz0 hz1 hz2 rfl (by decide) _ _ _ (by rfl) hown [.string (s.extract a s.size)] 1 9 (by rfl) rfl (one_cell rfl) (by unfold maxLen; omega) (by omega) hb.size ?_)
      intro v' w2 hown2 hb2
      have hB := hb.trans hb2
      obtain ⟨fin, hx⟩ := HX.out
      rw [← hx] at hown2
      have R := own_txt _ _ _ _ _ _ hown2 rfl
      rw [← fin] at R
      clear hown2 hb2 hown hx HX fin
      go_wp2_with fail
      go_ret
      exact ⟨v', rfl, R, hB⟩

set_option maxHeartbeats 400000 in
set_option maxRecDepth 100000 in
theorem parts_c (s : ByteArray) (w : World) (hs : s.size ≤ 1048576) :
    Calls Tryz.prog 108 #[.string s] w (StrsPost w (partsL s.data.toList)) := by
  by_cases hne : s.data.toList = []
  · have he : s.toList.isEmpty = true := by rw [ByteArray.toList_eq, hne]; rfl
    have HN := hid hne
    clear hne
    go_enter Tryz.func108, Tryz.ntmps108
    go_wp2_with fail
    go_ret
    refine ⟨_, rfl, ?_, (Below.refl _ _).alloc (Nat.le_refl _) _⟩
    rw [HN.out]
    exact World.ownsRow_lit w #[] 0 (Nat.le_refl _) (by unfold maxLen; omega) rfl
  · have he : s.toList.isEmpty = false := by
      rw [ByteArray.toList_eq]
      cases h : s.data.toList with
      | nil => exact absurd h hne
      | cons a l => rfl
    have e : partsL s.data.toList = splitB 46 s.data.toList := by unfold partsL; rw [if_neg hne, splitB_dot]
    have HE := hid e
    clear e hne
    go_enter Tryz.func108, Tryz.ntmps108
    go_wp2_with fail
    refine (splitAt_c s 46 w hs).mono ?_
    rintro e w1 ⟨v, rfl, ho, hb⟩
    have HO := hid (And.intro ho hb)
    clear ho hb
    go_wp2_with fail
    go_ret
    exact ⟨v, rfl, by rw [HE.out]; exact HO.out.1, HO.out.2⟩
end Go.Proofs.YtlifaeleoiodkaaGreatDoor

/-
  WALKS: a name by the model (spec.validName, ValidName, PartsOf); to be below, by both; HasPrefix.
-/
namespace Go.Proofs.YtlifaeleoiodkaaGreatDoor
open Go.RowKit Nm
set_option linter.unusedSimpArgs false
set_option linter.unusedVariables false

theorem nameOk_end (l : List UInt8) (h : (partsL l).all wordOk = true) : nameOk l = decide (((partsL l).length : Int) ≤ 4) := by
  unfold nameOk; rw [h, Bool.true_and]; apply decide_eq_decide.2; omega
theorem nameOk_no (l : List UInt8) (k : Nat) (x : List UInt8) (h : (partsL l)[k]? = some x) (hx : wordOk x = false) : nameOk l = false := by
  cases hn : nameOk l with
  | false => rfl
  | true => have := ((nameOk_iff l).1 hn).1 x (List.mem_of_getElem? h); rw [hx] at this; cases this
theorem parts_len (l : List UInt8) : (partsL l).length ≤ l.length + 1 := by have := total_parts l; omega
theorem all_snoc (f : List UInt8 → Bool) (l : List (List UInt8)) (k : Nat) (x : List UInt8) (h : (l.take k).all f = true) (hx : l[k]? = some x) (hf : f x = true) : (l.take (k + 1)).all f = true := by
  rw [List.take_add_one, hx]; simp [List.all_append, h, hf]
theorem txt_at (ws : List (List UInt8)) (k : Nat) (h : k < ws.length) : ∃ x : ByteArray, ws[k]? = some x.data.toList ∧ (ws.map txt)[k]? = some (.string x) := by
  refine ⟨⟨(ws[k]'h).toArray⟩, by simp, ?_⟩
  rw [List.getElem?_map, List.getElem?_eq_getElem h]; rfl
theorem len_le_total (ws : List (List UInt8)) (x : List UInt8) (h : x ∈ ws) : x.length ≤ total ws := by
  induction ws with
  | nil => cases h
  | cons a r ih =>
    simp only [total, List.map_cons, List.sum_cons]
    rcases List.mem_cons.1 h with rfl | h
    · omega
    · have := ih h; simp only [total] at this; omega
theorem word_size (l : List UInt8) (k : Nat) (x : List UInt8) (h : (partsL l)[k]? = some x) : x.length ≤ l.length + 1 := by
  have h1 := total_parts l
  have h2 : x.length ≤ total (partsL l) := by
    have hm := List.mem_of_getElem? h
    exact len_le_total _ _ hm
  omega

set_option maxHeartbeats 1000000 in
set_option maxRecDepth 100000 in
theorem validName_c (s : ByteArray) (w : World) (hs : s.size ≤ 1048576) :
    Calls Tryz.prog 68 #[.string s] w (BoolPost w (nameOk s.data.toList)) := by
  have hpl := parts_len s.data.toList
  rw [← Lib.size_eq] at hpl
  go_enter Tryz.func68, Tryz.ntmps68
  go_wp2_with fail
  refine (parts_c s w hs).mono ?_
  rintro e w1 ⟨v, rfl, ho, hb⟩
  obtain ⟨hl, A, c, rfl, hnc, hcm, hA⟩ := Sl.of_own ho
  have HA := hid hA
  have HB := hid hb
  clear ho hl hA hb
  go_wp2_with fail
  go_loop [4] (fun i => ∃ k : Nat, i = .int .i64 k ∧ k ≤ (partsL s.data.toList).length ∧ Hid (((partsL s.data.toList).take k).all wordOk = true)) (fun i => (partsL s.data.toList).length - (intOf i).toNat)
  case atStart => exact ⟨0, rfl, by omega, by simp [Hid]⟩
  case round =>
    obtain ⟨k, rfl, hk, HL⟩ := hrel
    by_cases hlt : k < (partsL s.data.toList).length
    · obtain ⟨b, o, rfl, hbB, hcell⟩ := HA.out (by omega)
      obtain ⟨x, hx1, hx2⟩ := txt_at _ k hlt
      have hcx := hcell k _ hx2
      have hxs := word_size _ _ _ hx1
      rw [← Lib.size_eq, ← Lib.size_eq] at hxs
      cases hw : wordOk x.data.toList with
      | true =>
        have hcall := validWord_c x w1 (by unfold maxLen; omega)
        rw [hw] at hcall
        have HW := hid (And.intro hx1 hw)
        clear hx1 hx2 hw hcell HA
        go_wp2_with fail
        refine hcall.mono ?_
        rintro e w2 ⟨rfl, rfl⟩
        go_wp2_with fail
        refine ⟨⟨k + 1, by go_num, by omega, all_snoc _ _ _ _ HL.out HW.out.1 HW.out.2⟩, by simp [intOf]; omega⟩
      | false =>
        have hcall := validWord_c x w1 (by unfold maxLen; omega)
        rw [hw] at hcall
        have HW := hid (And.intro hx1 hw)
        clear hx1 hx2 hw hcell HA
        go_wp2_with fail
        refine hcall.mono ?_
        rintro e w2 ⟨rfl, rfl⟩
        go_wp2_with fail
        go_ret
        exact ⟨ret_bool (nameOk_no _ k _ HW.out.1 HW.out.2).symm, HB.out⟩
    · have HE := hid (show nameOk s.data.toList = decide (((partsL s.data.toList).length : Int) ≤ 4) from nameOk_end _ (by have := HL.out; rwa [List.take_of_length_le (by omega)] at this))
      go_wp2_with fail
      go_ret
      exact ⟨ret_bool HE.out.symm, HB.out⟩

end Go.Proofs.YtlifaeleoiodkaaGreatDoor

/-
  WALKS: to be below, by both; HasPrefix; LastIndexByte; above; inBranch.
-/
namespace Go.Proofs.YtlifaeleoiodkaaGreatDoor
open Go.RowKit Nm
set_option linter.unusedSimpArgs false
set_option linter.unusedVariables false

theorem eq_true_of {a b : ByteArray} (h : a.data.toList = b.data.toList) : (a.toList == b.toList) = true := by rw [beq_txt]; simpa using h
theorem eq_false_of {a b : ByteArray} (h : ¬ a.data.toList = b.data.toList) : (a.toList == b.toList) = false := by rw [beq_txt]; simpa using h
theorem empty_true {a : ByteArray} (h : a.data.toList = []) : a.toList.isEmpty = true := by rw [ByteArray.toList_eq, h]; rfl
theorem empty_false {a : ByteArray} (h : ¬ a.data.toList = []) : a.toList.isEmpty = false := by
  rw [ByteArray.toList_eq]
  cases h' : a.data.toList with
  | nil => exact absurd h' h
  | cons x l => rfl

/-- the prefix of a text, as Go asks it -/
theorem hasPrefix_c (a b : ByteArray) (w : World) (ha : a.size ≤ maxLen) (hb : b.size ≤ maxLen) :
    Calls Tryz.prog 158 #[.string a, .string b] w fun e w' => e = .returned (.bool (decide (b.data.toList <+: a.data.toList))) ∧ w' = w := by
  unfold maxLen at ha hb
  by_cases h1 : b.size ≤ a.size
  · have h1' : ¬ ((a.size : Int) < (b.size : Int)) := by omega
    have hd : (a.extract 0 b.size).data.toList = a.data.toList.take b.size := by rw [Lib.extract_data]; simp
    by_cases h2 : (a.extract 0 b.size).data.toList = b.data.toList
    · have e2 := eq_true_of h2
      have HP := hid (show decide (b.data.toList <+: a.data.toList) = true from decide_eq_true ((pre_iff _ _).2 ⟨by rw [← Lib.size_eq, ← Lib.size_eq]; exact h1, by rw [← Lib.size_eq, ← hd]; exact h2⟩))
      clear hd h2
      go_enter Tryz.func158, Tryz.ntmps158
      go_wp2_with fail
      all_goals go_ret
      all_goals exact ⟨ret_bool (by rw [HP.out]), rfl⟩
    · have e2 := eq_false_of h2
      have HP := hid (show decide (b.data.toList <+: a.data.toList) = false from decide_eq_false (fun h => h2 (by rw [hd, Lib.size_eq]; exact ((pre_iff _ _).1 h).2)))
      clear hd h2
      go_enter Tryz.func158, Tryz.ntmps158
      go_wp2_with fail
      all_goals go_ret
      all_goals exact ⟨ret_bool (by rw [HP.out]), rfl⟩
  · have h1' : (a.size : Int) < (b.size : Int) := by omega
    have HP := hid (show decide (b.data.toList <+: a.data.toList) = false from decide_eq_false (fun h => h1 (by rw [Lib.size_eq, Lib.size_eq]; exact h.length_le)))
    go_enter Tryz.func158, Tryz.ntmps158
    go_wp2_with fail
    all_goals go_ret
    all_goals exact ⟨ret_bool (by rw [HP.out]), rfl⟩
theorem stringsHasPrefix_c (a b : ByteArray) (w : World) (ha : a.size ≤ maxLen) (hb : b.size ≤ maxLen) :
    Calls Tryz.prog 154 #[.string a, .string b] w fun e w' => e = .returned (.bool (decide (b.data.toList <+: a.data.toList))) ∧ w' = w := by
  have hcall := fun W => hasPrefix_c a b W ha hb
  generalize decide (b.data.toList <+: a.data.toList) = r at hcall ⊢
  go_enter Tryz.func154, Tryz.ntmps154
  go_wp2_with fail
  refine (hcall _).mono ?_
  rintro e w1 ⟨rfl, rfl⟩
  go_wp2_with fail
  go_ret
  exact ⟨rfl, rfl⟩

set_option maxHeartbeats 400000 in
set_option maxRecDepth 100000 in
theorem inBranch_c (a b : ByteArray) (w : World) (ha : a.size ≤ maxLen) (hb : b.size ≤ 1048577) :
    Calls Tryz.prog 144 #[.string a, .string b] w fun e w' => e = .returned (.bool (belowL a.data.toList b.data.toList)) ∧ w' = w := by
  by_cases h1 : b.data.toList = []
  · have e1 := empty_true h1
    have HP := hid (show belowL a.data.toList b.data.toList = true by simp [belowL, h1])
    clear h1
    go_enter Tryz.func144, Tryz.ntmps144
    go_wp2_with fail
    all_goals go_ret
    all_goals exact ⟨ret_bool (by rw [HP.out]), rfl⟩
  have e1 := empty_false h1
  by_cases h2 : a.data.toList = b.data.toList
  · have e2 := eq_true_of h2
    have HP := hid (show belowL a.data.toList b.data.toList = true by simp [belowL, h2])
    clear h1 h2
    go_enter Tryz.func144, Tryz.ntmps144
    go_wp2_with fail
    all_goals go_ret
    all_goals exact ⟨ret_bool (by rw [HP.out]), rfl⟩
  have e2 := eq_false_of h2
  have HP := hid (show belowL a.data.toList b.data.toList = decide ((b.data.toList ++ [46]) <+: a.data.toList) by simp [belowL, h1, h2])
  clear h1 h2
  have hcall := fun W => stringsHasPrefix_c a (b ++ ⟨#[46]⟩) W ha (by have : (⟨#[46]⟩ : ByteArray).size = 1 := rfl; unfold maxLen; rw [ByteArray.size_append]; omega)
  have hd : (b ++ ⟨#[46]⟩ : ByteArray).data.toList = b.data.toList ++ [46] := by simp
  rw [hd, ← HP.out] at hcall
  clear hd
  generalize belowL a.data.toList b.data.toList = r at hcall ⊢
  go_enter Tryz.func144, Tryz.ntmps144
  go_wp2_with fail
  refine (hcall _).mono ?_
  rintro e w1 ⟨rfl, rfl⟩
  go_wp2_with fail
  go_ret
  exact ⟨rfl, rfl⟩

theorem byteAt_dec (a : ByteArray) (n : Nat) (h : n < a.size) : ((((a[n]'h).toNat : Int) == 46) = true ↔ a.data.toList[n]? = some 46) := by
  rw [byte_at a n h, beq_iff_eq, Option.some.injEq]
  constructor
  · intro e; exact UInt8.toNat_inj.1 (by simp at e ⊢; omega)
  · rintro e; rw [e]; rfl

set_option maxHeartbeats 1000000 in
set_option maxRecDepth 100000 in
theorem specBelow_c (a b : ByteArray) (w : World) (ha : a.size ≤ maxLen) (hb : b.size ≤ maxLen) :
    Calls Tryz.prog 111 #[.string a, .string b] w fun e w' => e = .returned (.bool (belowL a.data.toList b.data.toList)) ∧ w' = w := by
  unfold maxLen at ha hb
  by_cases h2 : a.data.toList = b.data.toList
  · have e2 := eq_true_of h2
    have HP := hid (show belowL a.data.toList b.data.toList = true by simp [belowL, h2])
    clear h2
    go_enter Tryz.func111, Tryz.ntmps111
    go_wp2_with fail
    all_goals go_ret
    all_goals exact ⟨ret_bool (by rw [HP.out]), rfl⟩
  have e2 := eq_false_of h2
  by_cases h1 : b.data.toList = []
  · have e1 := empty_true h1
    have HP := hid (show belowL a.data.toList b.data.toList = true by simp [belowL, h1])
    clear h1 h2
    go_enter Tryz.func111, Tryz.ntmps111
    go_wp2_with fail
    all_goals go_ret
    all_goals exact ⟨ret_bool (by rw [HP.out]), rfl⟩
  have e1 := empty_false h1
  have HP := hid (show belowL a.data.toList b.data.toList = decide (b.data.toList.length < a.data.toList.length ∧ a.data.toList.take b.data.toList.length = b.data.toList ∧ a.data.toList[b.data.toList.length]? = some 46) by
    simp only [belowL, h1, h2, decide_false, Bool.false_or]; exact decide_eq_decide.2 (predot_iff _ _))
  clear h1 h2
  rw [← Lib.size_eq, ← Lib.size_eq] at HP
  by_cases h3 : b.size < a.size
  · have hd : (a.extract 0 b.size).data.toList = a.data.toList.take b.size := by rw [Lib.extract_data]; simp
    have hby : 0 ≤ ((a[b.size]'h3).toNat : Int) ∧ ((a[b.size]'h3).toNat : Int) < 256 := by have := (a[b.size]'h3).toNat_lt; omega
    by_cases h4 : (a.extract 0 b.size).data.toList = b.data.toList
    · have e4 := eq_true_of h4
      cases h5 : (((a[b.size]'h3).toNat : Int) == 46) with
      | true =>
        have HR := hid (show belowL a.data.toList b.data.toList = true by rw [HP.out]; exact decide_eq_true ⟨h3, by rw [← hd]; exact h4, (byteAt_dec a _ h3).1 h5⟩)
        clear hd h4 HP
        go_enter Tryz.func111, Tryz.ntmps111
        go_wp2_with fail
        all_goals go_ret
        all_goals exact ⟨ret_bool (by rw [HR.out]), rfl⟩
      | false =>
        have HR := hid (show belowL a.data.toList b.data.toList = false by rw [HP.out]; exact decide_eq_false (fun h => by rw [(byteAt_dec a _ h3).2 h.2.2] at h5; cases h5))
        clear hd h4 HP
        go_enter Tryz.func111, Tryz.ntmps111
        go_wp2_with fail
        all_goals go_ret
        all_goals exact ⟨ret_bool (by rw [HR.out]), rfl⟩
    · have e4 := eq_false_of h4
      have HR := hid (show belowL a.data.toList b.data.toList = false by rw [HP.out]; exact decide_eq_false (fun h => h4 (by rw [hd]; exact h.2.1)))
      clear hd h4 HP
      go_enter Tryz.func111, Tryz.ntmps111
      go_wp2_with fail
      all_goals go_ret
      all_goals exact ⟨ret_bool (by rw [HR.out]), rfl⟩
  · have h3' : (a.size : Int) ≤ (b.size : Int) := by omega
    have HR := hid (show belowL a.data.toList b.data.toList = false by rw [HP.out]; exact decide_eq_false (fun h => h3 h.1))
    clear HP
    go_enter Tryz.func111, Tryz.ntmps111
    go_wp2_with fail
    all_goals go_ret
    all_goals exact ⟨ret_bool (by rw [HR.out]), rfl⟩

/-- IsBelow of both programs -/
def isB (a b : List UInt8) : Bool := nameOk a && (nameOk b && belowL a b)

end Go.Proofs.YtlifaeleoiodkaaGreatDoor

/-
  WALKS: LastIndexByte, above, the common name by both; joinWith.
-/
namespace Go.Proofs.YtlifaeleoiodkaaGreatDoor
open Go.RowKit Nm
set_option linter.unusedSimpArgs false
set_option linter.unusedVariables false


def LastPost (l : List UInt8) (c : UInt8) (w : World) (e : Ending) (w' : World) : Prop :=
  ∃ r : Int, e = .returned (.int .i64 r) ∧ w' = w ∧ ((∃ i : Nat, r = i ∧ l[i]? = some c ∧ ∀ x ∈ l.drop (i + 1), x ≠ c) ∨ (r = -1 ∧ ∀ x ∈ l, x ≠ c))

set_option maxHeartbeats 1000000 in
set_option maxRecDepth 100000 in
theorem lastIndex_c (s : ByteArray) (c : UInt8) (w : World) (hs : s.size ≤ maxLen) :
    Calls Tryz.prog 163 #[.string s, .int .u8 (c.toNat : Int)] w (LastPost s.data.toList c w) := by
  unfold maxLen at hs
  go_enter Tryz.func163, Tryz.ntmps163
  go_wp2_with fail
  go_loopg [5] s.size (fun g i wr => i = .int .i64 ((g : Int) - 1) ∧ g ≤ s.size ∧ wr = w ∧ Hid (∀ x ∈ s.data.toList.drop g, x ≠ c))
  case atStart => exact ⟨rfl, Nat.le_refl _, rfl, by rw [Lib.size_eq, List.drop_length]; intro x hx; cases hx⟩
  case round =>
    obtain ⟨rfl, hg, rfl, HD⟩ := hrel
    cases gk with
    | zero =>
      go_wp2_with fail
      go_ret
      exact ⟨-1, rfl, rfl, .inr ⟨rfl, by simpa using HD.out⟩⟩
    | succ g =>
      have hlt : g < s.size := by omega
      have hby : 0 ≤ ((s[g]'hlt).toNat : Int) ∧ ((s[g]'hlt).toNat : Int) < 256 := by have := (s[g]'hlt).toNat_lt; omega
      have e1 : ((g + 1 : Nat) : Int) - 1 = (g : Int) := by omega
      rw [e1]
      clear e1
      by_cases hc : s[g]'hlt = c
      · have b1 : (((s[g]'hlt).toNat : Int) == (c.toNat : Int)) = true := by rw [hc]; simp
        have HC := hid hc
        clear hc
        go_wp2_with fail
        go_ret
        exact ⟨g, rfl, rfl, .inl ⟨g, rfl, by rw [byte_at s g hlt, HC.out], HD.out⟩⟩
      · have b1 : (((s[g]'hlt).toNat : Int) == (c.toNat : Int)) = false := by
          rw [beq_eq_false_iff_ne]; intro e; exact hc (UInt8.toNat_inj.1 (by omega))
        have HC := hid hc
        clear hc
        go_wp2_with fail
        go_roundg g
        case measure => omega
        case rel =>
          refine ⟨rfl, by omega, rfl, ?_⟩
          show ∀ x ∈ s.data.toList.drop g, x ≠ c
          rw [drop_cons _ g _ (byte_at s g hlt)]
          intro x hx
          rcases List.mem_cons.1 hx with rfl | hx
          · exact HC.out
          · exact HD.out x hx
theorem stringsLast_c (s : ByteArray) (c : UInt8) (w : World) (hs : s.size ≤ maxLen) :
    Calls Tryz.prog 159 #[.string s, .int .u8 (c.toNat : Int)] w (LastPost s.data.toList c w) := by
  have hcall := hid (fun W => lastIndex_c s c W hs)
  go_enter Tryz.func159, Tryz.ntmps159
  go_wp2_with fail
  refine (hcall.out _).mono ?_
  rintro e w1 ⟨r, rfl, rfl, hr⟩
  have HR := hid hr
  clear hr
  go_wp2_with fail
  go_ret
  exact ⟨r, rfl, rfl, HR.out⟩

set_option maxHeartbeats 1000000 in
set_option maxRecDepth 100000 in
theorem implAbove_c (s : ByteArray) (w : World) (hs : s.size ≤ maxLen) :
    Calls Tryz.prog 155 #[.string s] w fun e w' => e = .returned (txt (aboveL s.data.toList)) ∧ w' = w := by
  have hcall := hid (fun W => stringsLast_c s 46 W hs)
  unfold maxLen at hs
  go_enter Tryz.func155, Tryz.ntmps155
  go_wp2_with fail
  refine (hcall.out _).mono ?_
  rintro e w1 ⟨r, rfl, rfl, ⟨i, rfl, hi, hn⟩ | ⟨rfl, hn⟩⟩
  · have hil : i < s.size := by rw [Lib.size_eq]; exact (List.getElem?_eq_some_iff.1 hi).1
    have HE := hid (show txt (aboveL s.data.toList) = .string (s.extract 0 i) by rw [← above_at _ i hi hn, Lib.extract_eq]; simp [txt])
    have H0 := hid (show ¬ 0 < i → txt (aboveL s.data.toList) = .string ByteArray.empty by
      intro h0
      obtain rfl : i = 0 := by omega
      rw [← above_at _ 0 hi hn]; simp [txt]; rfl)
    clear hi hn
    go_wp2_with fail
    all_goals go_ret
    · exact ⟨by rw [HE.out]; rfl, rfl⟩
    · exact ⟨by rw [H0.out (by assumption)]; rfl, rfl⟩
  · have HE := hid (show txt (aboveL s.data.toList) = .string ByteArray.empty by rw [above_none _ hn]; simp [txt]; rfl)
    clear hn
    go_wp2_with fail
    go_ret
    exact ⟨by rw [HE.out]; rfl, rfl⟩

theorem total_words (ws : List (List UInt8)) (h : ∀ w ∈ ws, wordOk w = true) : total ws ≤ 4 * ws.length := by
  induction ws with
  | nil => simp [total]
  | cons a r ih =>
    have h1 := ih (fun w hw => h w (by simp [hw]))
    have h2 := h a (by simp)
    simp only [wordOk, Bool.and_eq_true, decide_eq_true_eq] at h2
    simp only [total, List.map_cons, List.sum_cons, List.length_cons] at h1 ⊢
    omega
theorem name_size (l : List UInt8) (h : nameOk l = true) : l.length ≤ 20 := by
  obtain ⟨h1, h2⟩ := (nameOk_iff l).1 h
  have h3 := joinS_len [46] (partsL l)
  rw [joinS_dot, join_parts] at h3
  have h4 := total_words _ h1
  simp only [List.length_singleton, Nat.one_mul] at h3
  omega
theorem txt_mk (l : List UInt8) : ∃ x : ByteArray, txt l = .string x ∧ x.data.toList = l := ⟨⟨l.toArray⟩, rfl, by simp⟩
theorem join_small (l : List UInt8) (k : Nat) : (joinL ((partsL l).take k)).length ≤ 2 * l.length + 2 := by
  have h1 := joinS_len [46] ((partsL l).take k)
  rw [joinS_dot] at h1
  have h2 := total_take (partsL l) k
  have h3 := total_parts l
  simp only [List.length_singleton, Nat.one_mul, List.length_take] at h1
  omega
def commonOf (a b : List UInt8) : List UInt8 := if nameOk a && nameOk b then commonL a b else []

end Go.Proofs.YtlifaeleoiodkaaGreatDoor

/-
  WALKS: joinWith; the common name by the model; the law FnExactCommonName.
-/
namespace Go.Proofs.YtlifaeleoiodkaaGreatDoor
open Go.RowKit Nm
set_option linter.unusedSimpArgs false
set_option linter.unusedVariables false

theorem joinS_take (s : List UInt8) (ws : List (List UInt8)) (k : Nat) (x : List UInt8) (hx : ws[k]? = some x) :
    joinS s (ws.take (k + 1)) = if k = 0 then x else joinS s (ws.take k) ++ (s ++ x) := by
  have hk : k < ws.length := (List.getElem?_eq_some_iff.1 hx).1
  rw [List.take_add_one, hx]
  show joinS s (ws.take k ++ [x]) = _
  rw [joinS_snoc]
  by_cases h : k = 0
  · subst h; simp
  · rw [if_neg h, if_neg]
    intro e
    have := congrArg List.length e
    simp at this
    rcases this with h1 | h1
    · exact h h1
    · rw [h1] at hk; simp at hk
theorem joinS_bound (s : List UInt8) (ws : List (List UInt8)) (k : Nat) : (joinS s (ws.take k)).length ≤ total ws + s.length * ws.length := by
  have h1 := joinS_len s (ws.take k)
  have h2 := total_take ws k
  have h3 : s.length * (ws.take k).length ≤ s.length * ws.length := Nat.mul_le_mul (Nat.le_refl _) (by rw [List.length_take]; omega)
  omega
theorem elem_total (ws : List (List UInt8)) (k : Nat) (x : List UInt8) (hx : ws[k]? = some x) : x.length ≤ total ws := len_le_total _ _ (List.mem_of_getElem? hx)

set_option maxHeartbeats 2000000 in
set_option maxRecDepth 100000 in
theorem joinWith_c (v : Value) (n B : Nat) (ws : List (List UInt8)) (sep : ByteArray) (w : World) (hv : Sl w B 1 n v (ws.map txt)) (hn : n ≤ 4194304) (ht : total ws + sep.data.toList.length * ws.length ≤ 8388608) (hsp : sep.size ≤ 8388608) :
    Calls Tryz.prog 142 #[v, .string sep] w fun e w' => e = .returned (txt (joinS sep.data.toList ws)) ∧ w' = w := by
  obtain ⟨hl, A, c, rfl, hnc, hcm, hA⟩ := hv
  have hln : ws.length = n := by simpa using hl
  have HA := hid (And.intro hA (And.intro hln ht))
  clear hl hA hln ht
  go_enter Tryz.func142, Tryz.ntmps142
  go_wp2_with fail
  go_loop [5, 6] (fun out i => ∃ (x : ByteArray) (k : Nat), i = .int .i64 k ∧ k ≤ n ∧ out = .string x ∧ Hid (x.data.toList = joinS sep.data.toList (ws.take k))) (fun _ i => n - (intOf i).toNat)
  case atStart => exact ⟨ByteArray.empty, 0, rfl, by omega, rfl, by show _ = _; simp [joinS]⟩
  case round =>
    obtain ⟨x, k, rfl, hk, rfl, HX⟩ := hrel
    obtain ⟨hA, hln, ht⟩ := HA.out
    by_cases hlt : k < n
    · obtain ⟨b, o, rfl, hbB, hcell⟩ := hA (by omega)
      obtain ⟨y, hy1, hy2⟩ := txt_at ws k (by omega)
      have hcy := hcell k _ hy2
      have hy3 := elem_total _ _ _ hy1
      rw [← Lib.size_eq] at hy3
      have hx3 : x.size ≤ total ws + sep.data.toList.length * ws.length := by rw [Lib.size_eq, HX.out]; exact joinS_bound _ _ _
      have hj := joinS_take sep.data.toList ws k _ hy1
      have hxb : x.size ≤ 8388608 := by omega
      have hyb : y.size ≤ 8388608 := by omega
      have HJ := hid hj
      clear hj hcell hy1 hy2 hA ht hln hx3 hy3
      by_cases h0 : 0 < k
      · go_wp2_with fail
        refine ⟨⟨_, k + 1, by go_num, by omega, rfl, ?_⟩, by simp [intOf]; omega⟩
        show _ = _
        rw [HJ.out, if_neg (by omega)]
        simp only [ByteArray.data_append, Array.toList_append, HX.out, List.append_assoc]
      · obtain rfl : k = 0 := by omega
        have hx0 : x = ByteArray.empty := (bytes_eq_iff _ _).1 (by rw [HX.out]; simp [joinS])
        subst hx0
        simp only [Nat.add_zero] at hcy
        go_wp2_with fail
        refine ⟨⟨_, 1, by go_num, by omega, rfl, ?_⟩, by simp [intOf]; omega⟩
        show _ = _
        rw [HJ.out, if_pos rfl]
    · have hk2 : k = n := by omega
      have HE := hid (show txt (joinS sep.data.toList ws) = .string x by
        rw [← txt_data, HX.out, List.take_of_length_le (by omega)])
      clear hA ht hln
      go_wp2_with fail
      go_ret
      exact ⟨by rw [HE.out]; rfl, rfl⟩

theorem Sl.parts_ {w : World} {B sz n : Nat} {v : Value} {xs : List Value} (h : Sl w B sz n v xs) : ∃ A c, v = .slice A n c ∧ n ≤ c ∧ c ≤ maxLen ∧ xs.length = n * sz ∧
    (0 < n → ∃ b o, A = some ⟨b, o, none⟩ ∧ b < B ∧ ∀ j u, xs[j]? = some u → w.cell? ⟨b, o + j, none⟩ = some u) := by
  obtain ⟨hl, A, c, h1, h2, h3, h4⟩ := h
  exact ⟨A, c, h1, h2, h3, hl, h4⟩
/-- a slice's first k elements -/
theorem Sl.cut {w : World} {B n c : Nat} {A : Option Addr} {xs : List Value} (h : Sl w B 1 n (.slice A n c) xs) {k : Nat} (hk : k ≤ n) : Sl w B 1 k (.slice A k c) (xs.take k) := by
  obtain ⟨A', c', he, h2, h3, hl, h4⟩ := h.parts_
  obtain ⟨rfl, -, rfl⟩ : A = A' ∧ n = n ∧ c = c' := by simpa using he
  refine ⟨by simp; omega, A, c, rfl, by omega, h3, fun hk0 => ?_⟩
  obtain ⟨b, o, e, hb, hc⟩ := h4 (by omega)
  refine ⟨b, o, e, hb, fun j u hu => hc j u ?_⟩
  rw [List.getElem?_take] at hu
  split at hu
  · exact hu
  · cases hu
theorem Sl.text {w : World} {B n c : Nat} {A : Option Addr} {ws : List (List UInt8)} (h : Sl w B 1 n (.slice A n c) (ws.map txt)) {k : Nat} (hk : k < n) :
    ∃ b o p, A = some ⟨b, o, none⟩ ∧ b < B ∧ ws[k]? = some p.data.toList ∧ w.cell? ⟨b, o + k, none⟩ = some (.string p) := by
  obtain ⟨A', c', he, h2, h3, hl, h4⟩ := h.parts_
  obtain ⟨rfl, rfl⟩ : A = A' ∧ c = c' := by simpa using he
  obtain ⟨b, o, e, hb, hc⟩ := h4 (by omega)
  obtain ⟨p, hp1, hp2⟩ := txt_at ws k (by simp at hl; omega)
  exact ⟨b, o, p, e, hb, hp1, hc k _ hp2⟩
theorem map_take (ws : List (List UInt8)) (k : Nat) : (ws.map txt).take k = (ws.take k).map txt := by rw [List.map_take]

end Go.Proofs.YtlifaeleoiodkaaGreatDoor

/-
  WALKS: lists of texts compared, marked and held (laws.eqStringS, equalTexts, markText, markStringS, heldStringS).
-/
namespace Go.Proofs.YtlifaeleoiodkaaGreatDoor
open Go.RowKit Nm
set_option linter.unusedSimpArgs false
set_option linter.unusedVariables false

def digitOf (m : Nat) : UInt8 := UInt8.ofNat (48 + m % 10)
def digitsF : Nat → Nat → List UInt8 → List UInt8
  | 0, _, acc => acc
  | f + 1, m, acc => if m = 0 then acc else digitsF f (m / 10) (digitOf m :: acc)
/-- the text of a mark -/
def mt (k : Nat) : List UInt8 := if k = 0 then [109, 48] else 109 :: digitsF 20 k []

theorem digit_val (m : Nat) : ((digitOf m).toNat : Int) = 48 + (m : Int) % 10 := by
  have : 48 + m % 10 < 256 := by omega
  unfold digitOf
  rw [UInt8.toNat_ofNat_of_lt' this]; omega

set_option maxHeartbeats 2000000 in
set_option maxRecDepth 100000 in
theorem markText_c (k : Nat) (w : World) (hk : k ≤ 17592186044416) :
    Calls Tryz.prog 50 #[.int .i64 k] w fun e w' => e = .returned (txt (mt k)) ∧ Below w.heap.size w w' := by
  by_cases h0 : k = 0
  · subst h0
    go_enter Tryz.func50, Tryz.ntmps50
    go_wp2_with fail
    go_ret
    exact ⟨rfl, Below.refl _ _⟩
  have hpos : ¬ ((k : Int) ≤ 0) := by omega
  have hcv : ∀ (W : World) (m : Nat), (convert 51 9 (.slice (some ⟨W.heap.size, 0, none⟩) 1 1)).run Tryz.prog (W.alloc (.cells #[.int .u8 (48 + (m : Int) % 10)] 5)) = .ok (.string ⟨#[digitOf m]⟩) (W.alloc (.cells #[.int .u8 (48 + (m : Int) % 10)] 5)) := by
    intro W m
    refine run_convert_bytes_back _ _ _ _ _ 1 [digitOf m] Tryz.underlying51 Tryz.underlying5 Tryz.underlying9 ?_
    intro j hj
    obtain rfl : j = 0 := by simpa using hj
    have := one_new W (.int .u8 (48 + (m : Int) % 10)) 5 0 _ rfl
    rw [this]
    simp only [List.getElem_cons_zero, digit_val]
  have HK := hid (show k ≠ 0 from h0)
  have hinit := hid (show k < 10 ^ 20 by omega)
  clear h0
  go_enter Tryz.func50, Tryz.ntmps50
  go_wp2_with fail
  go_loopg [0, 3] 20 (fun g kv out wr => ∃ (m : Nat) (x : ByteArray), kv = .int .i64 m ∧ out = .string x ∧ m ≤ k ∧ Hid (m < 10 ^ g) ∧ Hid (digitsF g m x.data.toList = digitsF 20 k []) ∧ x.size + g ≤ 20 ∧ Below w.heap.size w wr)
  case atStart => exact ⟨k, ByteArray.empty, rfl, rfl, Nat.le_refl _, hinit, rfl, Nat.le_refl _, Below.refl _ _⟩
  case round =>
    obtain ⟨m, x, rfl, rfl, hmk, HM, HD, hxs, hb⟩ := hrel
    by_cases hm : 0 < m
    · obtain ⟨g, rfl⟩ : ∃ g, gk = g + 1 := by
        cases gk with
        | zero => have := HM.out; simp at this; omega
        | succ g => exact ⟨g, rfl⟩
      have H1 := hid (show m / 10 < 10 ^ g by have := HM.out; rw [Nat.pow_succ] at this; omega)
      have H2 := hid (show digitsF g (m / 10) (digitOf m :: x.data.toList) = digitsF 20 k [] by
        rw [← HD.out]; simp only [digitsF]; rw [if_neg (by omega)])
      go_wp2_with fail
      go_roundg g
      case measure => omega
      case rel =>
        refine ⟨m / 10, ⟨#[digitOf m]⟩ ++ x, by go_num, rfl, by omega, H1, ?_, ?_, hb.alloc hb.size _⟩
        · rw [show (⟨#[digitOf m]⟩ ++ x : ByteArray).data.toList = digitOf m :: x.data.toList by simp]
          exact H2
        · have : (⟨#[digitOf m]⟩ : ByteArray).size = 1 := rfl
          rw [ByteArray.size_append]; omega
    · obtain rfl : m = 0 := by omega
      have HE := hid (show txt (mt k) = .string (⟨#[109]⟩ ++ x) by
        have h := HD.out
        have h' : digitsF gk 0 x.data.toList = x.data.toList := by cases gk <;> simp [digitsF]
        rw [h'] at h
        unfold mt
        rw [if_neg HK.out, ← h]
        simp only [txt, Value.string.injEq]
        refine (bytes_eq_iff _ _).1 ?_
        simp)
      have hs1 : (⟨#[109]⟩ : ByteArray).size = 1 := rfl
      go_wp2_with fail
      go_ret
      exact ⟨by rw [HE.out]; rfl, hb⟩

/-- the first n cells are the marks from k on -/
def Marked (xs : List Value) (k n : Nat) : Prop := ∀ j, j < n → xs[j]? = some (txt (mt (k + j)))

set_option maxHeartbeats 2000000 in
set_option maxRecDepth 100000 in
theorem markStrs_c (v : Value) (n base k : Nat) (xs : List Value) (w : World) (hv : w.ownsRow base 9 1 v n xs) (hn : n + k ≤ 17592186044416) :
    Calls Tryz.prog 86 #[v, .int .i64 k] w fun e w' => e = .returned (.int .i64 ((k + n : Nat) : Int)) ∧ (∃ ys, w'.ownsRow base 9 1 v n ys ∧ Marked ys k n) ∧ w.grownBy w' v.ownBlock := by
  obtain ⟨A, c, rfl, hnc, hcm⟩ := (Sl.of_own hv).form
  have HV := hid hv
  clear hv
  go_enter Tryz.func86, Tryz.ntmps86
  go_wp2_with fail
  go_loopw [1, 5] (fun kv iv wr => ∃ (i : Nat) (ys : List Value), kv = .int .i64 ((k + i : Nat) : Int) ∧ iv = .int .i64 i ∧ i ≤ n ∧ wr.ownsRow base 9 1 (.slice A n c) n ys ∧ Marked ys k i ∧ w.grownBy wr (Value.slice A n c).ownBlock) (fun _ iv _ => n - (intOf iv).toNat)
  case atStart => exact ⟨0, xs, rfl, rfl, Nat.zero_le _, HV.out, fun j hj => absurd hj (by omega), World.grownBy.refl _ _⟩
  case round =>
    obtain ⟨i, ys, rfl, rfl, hi, hown, hM, hg⟩ := hrel
    have hcall := fun W => markText_c (k + i) W (by omega)
    obtain ⟨x, hx1, hx2⟩ := txt_mk (mt (k + i))
    rw [hx1] at hcall
    have HC := hid hcall
    have HX := hid (And.intro hx1 hM)
    clear hcall hx1 hx2 hM
    by_cases hlt : i < n
    · rcases hown.2 with ⟨h1, h2⟩ | ⟨g, cap, cur, h1, hbg, hgb, _, _, hcs, _⟩
      · omega
      obtain ⟨rfl, rfl⟩ : A = some ⟨g, 0, none⟩ ∧ c = cap := by simpa using h1
      have hglt : g < wr.heap.size := (Array.getElem?_eq_some_iff.1 hgb).1
      have HO := hid hown
      clear hown h1 hgb
      go_wp2_with fail
      refine (HC.out _).mono ?_
      rintro e w1 ⟨rfl, hb1⟩
      have hown1 := own_below HO.out hb1
      have hcell : ∃ u, w1.cell? ⟨g, i, none⟩ = some u := ⟨_, (hown1.cellAt i (by omega)).trans (List.getElem?_eq_getElem (by have := hown1.1; omega))⟩
      obtain ⟨u, hcell⟩ := hcell
      have hfro := hown1.frozenAt i
      obtain ⟨hst, hsg⟩ := hown1.stored i (.string x)
      have HS := hid (And.intro hst hsg)
      clear hst hsg hown1
      go_wp2_with fail
      go_roundw
      case rel =>
        refine ⟨i + 1, _, by go_num, by go_num, by omega, HS.out.1, ?_, ?_⟩
        · intro j hj
          rw [List.getElem?_set]
          by_cases e : i = j
          · subst e
            rw [if_pos rfl, if_pos (by have := HO.out.1; omega), HX.out.1]
          · rw [if_neg e]; exact HX.out.2 j (by omega)
        · have h1 : wr.grownBy w1 (some g) := grown_of hb1 _
          have h2 := HS.out.2
          have h3 : w.grownBy wr (some g) := hg
          exact ⟨h2.os.trans (h1.os.trans h3.os), h2.tape.trans (h1.tape.trans h3.tape), h2.output.trans (h1.output.trans h3.output), Nat.le_trans h3.size (Nat.le_trans h1.size h2.size),
            fun q hq hne => (h2.block q (by have := h3.size; have := h1.size; omega) hne).trans ((h1.block q (by have := h3.size; omega) hne).trans (h3.block q hq hne))⟩
      case measure => simp [intOf]; omega
    · obtain rfl : i = n := by omega
      have HO := hid hown
      clear hown
      go_wp2_with fail
      go_ret
      exact ⟨ret_int (by simp), ⟨ys, HO.out, HX.out.2⟩, hg⟩

theorem lists_eq_len {x y : List (List UInt8)} (h : x = y) : x.length = y.length := by rw [h]
theorem take_all_eq {x y : List (List UInt8)} {n : Nat} (h : x.take n = y.take n) (hx : x.length = n) (hy : y.length = n) : x = y := by
  rw [List.take_of_length_le (by omega), List.take_of_length_le (by omega)] at h; exact h

set_option maxHeartbeats 2000000 in
set_option maxRecDepth 100000 in
theorem eqStrs_c (v1 v2 : Value) (n1 n2 B : Nat) (x y : List (List UInt8)) (w : World) (h1 : Sl w B 1 n1 v1 (x.map txt)) (h2 : Sl w B 1 n2 v2 (y.map txt)) (hB : B ≤ w.heap.size) :
    Calls Tryz.prog 117 #[v1, v2] w (BoolPost w (decide (x = y))) := by
  obtain ⟨A1, k1, rfl, _, hm1, hl1, _⟩ := h1.parts_
  obtain ⟨A2, k2, rfl, _, hm2, hl2, _⟩ := h2.parts_
  unfold maxLen at hm1 hm2
  simp only [List.length_map, Nat.mul_one] at hl1 hl2
  have HS := hid (And.intro h1 (And.intro h2 (And.intro hl1 hl2)))
  clear h1 h2
  by_cases hne : n1 = n2
  · subst hne
    have b0 : ((n1 : Int) != (n1 : Int)) = false := by simp
    clear hl1 hl2
    go_enter Tryz.func117, Tryz.ntmps117
    go_wp2_with fail
    go_loopw [5] (fun iv wr => ∃ (i : Nat), iv = .int .i64 i ∧ i ≤ n1 ∧ Hid (x.take i = y.take i) ∧ Hid (Below w.heap.size w wr)) (fun iv _ => n1 - (intOf iv).toNat)
    case atStart => exact ⟨0, rfl, by omega, by simp [Hid], Below.refl _ _⟩
    case round =>
      obtain ⟨i, rfl, hi, HT, HB⟩ := hrel
      obtain ⟨S1, S2, hl1, hl2⟩ := HS.out
      by_cases hlt : i < n1
      · obtain ⟨b1, o1, p, rfl, hb1, hp1, hc1⟩ := S1.text hlt
        obtain ⟨b2, o2, q, rfl, hb2, hq1, hc2⟩ := S2.text hlt
        have hcp : wr.cell? ⟨b1, o1 + i, none⟩ = some (.string p) := (HB.out.cell (p := ⟨b1, o1 + i, none⟩) (by show b1 < _; omega)).trans hc1
        have hcq : wr.cell? ⟨b2, o2 + i, none⟩ = some (.string q) := (HB.out.cell (p := ⟨b2, o2 + i, none⟩) (by show b2 < _; omega)).trans hc2
        clear hc1 hc2 S1 S2
        by_cases hpq : p.data.toList = q.data.toList
        · have e3 : (p.toList != q.toList) = false := by rw [bne, eq_true_of hpq]; rfl
          have e4 := eq_true_of hpq
          have HE := hid (take_eq_succ x y i HT.out (by rw [hp1, hq1, hpq]))
          clear hp1 hq1 hpq hl1 hl2
          go_wp2_with fail
          go_quiet (fail)
          go_wp2_with fail
          go_roundw
          case rel => exact ⟨i + 1, by go_num, by omega, HE, below_dr HB.out _⟩
          case measure => simp [intOf]; omega
        · have e3 : (p.toList != q.toList) = true := by rw [bne, eq_false_of hpq]; rfl
          have e4 := eq_false_of hpq
          have HE := hid (show decide (x = y) = false from decide_eq_false (fun h => by subst h; rw [hp1] at hq1; exact hpq (by simpa using hq1)))
          clear hp1 hq1 hpq hl1 hl2
          go_wp2_with fail
          go_quiet (fail)
          go_wp2_with fail
          go_ret
          exact ⟨ret_bool HE.out.symm, below_dr HB.out _⟩
      · have HE := hid (show decide (x = y) = true from decide_eq_true (take_all_eq (n := i) HT.out (by omega) (by omega)))
        clear hl1 hl2 S1 S2
        go_wp2_with fail
        go_ret
        exact ⟨ret_bool HE.out.symm, HB.out⟩
  · have b0 : ((n1 : Int) != (n2 : Int)) = true := by simp; omega
    have HE := hid (show decide (x = y) = false from decide_eq_false (fun h => hne (by have := lists_eq_len h; omega)))
    clear hl1 hl2
    go_enter Tryz.func117, Tryz.ntmps117
    go_wp2_with fail
    go_ret
    exact ⟨ret_bool HE.out.symm, Below.refl _ _⟩
end Go.Proofs.YtlifaeleoiodkaaGreatDoor

/-
  WALKS: filters (impl.isWord, validFilter, ValidFilters; spec.validFilters, ValidFilters).
-/
namespace Go.Proofs.YtlifaeleoiodkaaGreatDoor
open Go.RowKit Nm
set_option linter.unusedSimpArgs false
set_option linter.unusedVariables false

structure Flt where
  k : Int
  nm : List UInt8
  n : Int
def fltOk (f : Flt) : Bool :=
  if f.k = 0 then !decide (f.nm = []) && (nameOk f.nm && decide (f.n = 0))
  else if f.k = 2 then wordOk f.nm && decide (f.n = 0)
  else if f.k = 1 ∨ f.k = 3 then decide (f.nm = []) && (decide (1 ≤ f.n) && decide (f.n ≤ 60))
  else false
def filtersOk (l : List Flt) : Bool := l.all fltOk && decide (l.length ≤ 3)
def fcells (f : Flt) : List Value := [.int .i64 f.k, txt f.nm, .int .i64 f.n]
def fsCells (l : List Flt) : List Value := l.flatMap fcells

theorem wordOk_wlen (l : List UInt8) (hne : l ≠ []) : wordOk l = decide (wlen l = l.length) := by
  rw [Bool.eq_iff_iff, decide_eq_true_eq]
  constructor
  · intro h
    have e : l.takeWhile (· != 46) = l := by
      rcases takeWhile_spec l with e | ⟨r, e⟩
      · exact e
      · exact absurd rfl (wordOk_nodot l h 46 (by rw [e]; simp))
    unfold wlen; rw [e, if_pos h]
  · intro h
    have hl : 0 < l.length := List.length_pos_iff.2 hne
    unfold wlen at h
    split at h
    · rename_i hw
      have e : l.takeWhile (· != 46) = l := (List.takeWhile_prefix _).eq_of_length_le (by omega)
      rwa [e] at hw
    · omega

theorem isWord_c (s : ByteArray) (w : World) (hs : s.size ≤ maxLen) :
    Calls Tryz.prog 96 #[.string s] w (BoolPost w (wordOk s.data.toList)) := by
  have hs' := hs
  unfold maxLen at hs'
  by_cases hne : s.data.toList = []
  · have e1 := empty_true hne
    have HE := hid (show wordOk s.data.toList = false by rw [hne]; rfl)
    clear hne
    go_enter Tryz.func96, Tryz.ntmps96
    go_wp2_with fail
    go_ret
    exact ⟨ret_bool (by rw [HE.out]), Below.refl _ _⟩
  · have e1 := empty_false hne
    have hc := hid (fun W => wordLength_c s W hs)
    have HE := hid (wordOk_wlen _ hne)
    rw [← Lib.size_eq] at HE
    generalize wlen s.data.toList = n at hc HE
    clear hne
    go_enter Tryz.func96, Tryz.ntmps96
    go_wp2_with fail
    refine (hc.out _).mono ?_
    rintro e w1 ⟨rfl, hb⟩
    go_wp2_with fail
    go_ret
    exact ⟨ret_bool (by rw [HE.out, Bool.eq_iff_iff]; simp; omega), hb⟩

set_option maxHeartbeats 2000000 in
set_option maxRecDepth 100000 in
theorem implValidFilter_c (k n : Int) (s : ByteArray) (w : World) (hs : s.size ≤ maxLen) :
    Calls Tryz.prog 123 #[.agg #[.int .i64 k, .string s, .int .i64 n]] w (BoolPost w (fltOk ⟨k, s.data.toList, n⟩)) := by
  have hb0 : Below w.heap.size w (w.alloc (.cells #[.int .i64 k, .string s, .int .i64 n] 162)) := (Below.refl _ _).alloc (Nat.le_refl _) _
  have HB := hid hb0
  clear hb0
  by_cases k0 : k = 0
  · subst k0
    by_cases hne : s.data.toList = []
    · have e1 := empty_true hne
      have HE := hid (show fltOk ⟨0, s.data.toList, n⟩ = false by simp [fltOk, hne])
      clear hne
      go_enter Tryz.func123, Tryz.ntmps123
      go_wp2_with fail
      go_ret
      exact ⟨ret_bool (by rw [HE.out]), HB.out⟩
    · have e1 := empty_false hne
      have hc := hid (fun W => implValidName_c s W hs)
      have HE := hid (show fltOk ⟨0, s.data.toList, n⟩ = (nameOk s.data.toList && decide (n = 0)) by simp [fltOk, hne])
      generalize nameOk s.data.toList = x at hc HE
      clear hne
      go_enter Tryz.func123, Tryz.ntmps123
      go_wp2_with fail
      refine (hc.out _).mono ?_
      rintro e w1 ⟨rfl, hb⟩
      have c2 : w1.cell? ⟨w.heap.size, 2, none⟩ = some (.int .i64 n) := by
        have := hb.cell (p := ⟨w.heap.size, 2, none⟩) (by simp)
        rw [this]; exact cell_of_row _ _ _ _ _ _ (heap_alloc_new w _)
      cases x with
      | false =>
        go_wp2_with fail
        go_ret
        exact ⟨ret_bool (by rw [HE.out]; rfl), HB.out.trans (hb.mono (by simp))⟩
      | true =>
        go_wp2_with fail
        go_ret
        exact ⟨ret_bool (by rw [HE.out, Bool.eq_iff_iff]; simp), HB.out.trans (hb.mono (by simp))⟩
  have b0 : (k == 0) = false := by simpa using k0
  by_cases k2 : k = 2
  · subst k2
    have hc := hid (fun W => isWord_c s W hs)
    have HE := hid (show fltOk ⟨2, s.data.toList, n⟩ = (wordOk s.data.toList && decide (n = 0)) by simp [fltOk])
    generalize wordOk s.data.toList = x at hc HE
    clear k0
    go_enter Tryz.func123, Tryz.ntmps123
    go_wp2_with fail
    refine (hc.out _).mono ?_
    rintro e w1 ⟨rfl, hb⟩
    have c2 : w1.cell? ⟨w.heap.size, 2, none⟩ = some (.int .i64 n) := by
      have := hb.cell (p := ⟨w.heap.size, 2, none⟩) (by simp)
      rw [this]; exact cell_of_row _ _ _ _ _ _ (heap_alloc_new w _)
    cases x with
    | false =>
      go_wp2_with fail
      go_ret
      exact ⟨ret_bool (by rw [HE.out]; rfl), HB.out.trans (hb.mono (by simp))⟩
    | true =>
      go_wp2_with fail
      go_ret
      exact ⟨ret_bool (by rw [HE.out, Bool.eq_iff_iff]; simp), HB.out.trans (hb.mono (by simp))⟩
  have b2 : (k == 2) = false := by simpa using k2
  by_cases k13 : k = 1 ∨ k = 3
  · have HE := hid (show fltOk ⟨k, s.data.toList, n⟩ = (decide (s.data.toList = []) && (decide (1 ≤ n) && decide (n ≤ 60))) by simp [fltOk, k0, k2, k13])
    have hm : ∃ b1 b3 : Bool, (k == 1) = b1 ∧ (k == 3) = b3 ∧ (b1 || b3) = true := ⟨_, _, rfl, rfl, by simpa using k13⟩
    obtain ⟨b1, b3, h1, h3, h13⟩ := hm
    clear k13 k0 k2
    by_cases hne : s.data.toList = []
    · have e1 := empty_true hne
      rw [decide_eq_true hne, Bool.true_and] at HE
      clear hne
      by_cases n1 : 1 ≤ n
      · cases b1 with
        | true =>
          go_enter Tryz.func123, Tryz.ntmps123
          go_wp2_with fail
          all_goals go_ret
          all_goals exact ⟨ret_bool (by rw [HE.out, Bool.eq_iff_iff]; simp; omega), HB.out⟩
        | false =>
          cases b3 with
          | false => simp at h13
          | true =>
            go_enter Tryz.func123, Tryz.ntmps123
            go_wp2_with fail
            all_goals go_ret
            all_goals exact ⟨ret_bool (by rw [HE.out, Bool.eq_iff_iff]; simp; omega), HB.out⟩
      · have n1' : n < 1 := by omega
        cases b1 with
        | true =>
          go_enter Tryz.func123, Tryz.ntmps123
          go_wp2_with fail
          all_goals go_ret
          all_goals exact ⟨ret_bool (by rw [HE.out, Bool.eq_iff_iff]; simp; omega), HB.out⟩
        | false =>
          cases b3 with
          | false => simp at h13
          | true =>
            go_enter Tryz.func123, Tryz.ntmps123
            go_wp2_with fail
            all_goals go_ret
            all_goals exact ⟨ret_bool (by rw [HE.out, Bool.eq_iff_iff]; simp; omega), HB.out⟩
    · have e1 := empty_false hne
      rw [decide_eq_false hne, Bool.false_and] at HE
      clear hne
      cases b1 with
      | true =>
        go_enter Tryz.func123, Tryz.ntmps123
        go_wp2_with fail
        all_goals go_ret
        all_goals exact ⟨ret_bool (by rw [HE.out]), HB.out⟩
      | false =>
        cases b3 with
        | false => simp at h13
        | true =>
          go_enter Tryz.func123, Tryz.ntmps123
          go_wp2_with fail
          all_goals go_ret
          all_goals exact ⟨ret_bool (by rw [HE.out]), HB.out⟩
  · have b1 : (k == 1) = false := by
      rw [beq_eq_false_iff_ne]; exact fun h => k13 (.inl h)
    have b3 : (k == 3) = false := by
      rw [beq_eq_false_iff_ne]; exact fun h => k13 (.inr h)
    have HE := hid (show fltOk ⟨k, s.data.toList, n⟩ = false by simp [fltOk, k0, k2, k13])
    clear k13 k0 k2
    go_enter Tryz.func123, Tryz.ntmps123
    go_wp2_with fail
    all_goals go_ret
    all_goals exact ⟨ret_bool (by rw [HE.out]), HB.out⟩

theorem fsCells_len (l : List Flt) : (fsCells l).length = l.length * 3 := by
  induction l with
  | nil => rfl
  | cons f l ih => simp only [fsCells, List.flatMap_cons, List.length_append, List.length_cons] at ih ⊢; rw [ih]; show 3 + _ = _; omega
theorem fsCells_at (l : List Flt) (i j : Nat) (f : Flt) (h : l[i]? = some f) (hj : j < 3) : (fsCells l)[i * 3 + j]? = (fcells f)[j]? := by
  induction l generalizing i with
  | nil => simp at h
  | cons g l ih =>
    cases i with
    | zero =>
      simp only [List.getElem?_cons_zero, Option.some.injEq] at h
      subst h
      simp only [fsCells, List.flatMap_cons, Nat.zero_mul, Nat.zero_add]
      rw [List.getElem?_append_left (by show j < 3; exact hj)]
    | succ i =>
      have := ih i (by simpa using h)
      simp only [fsCells, List.flatMap_cons] at this ⊢
      rw [List.getElem?_append_right (by show 3 ≤ _; omega), show (i + 1) * 3 + j - (fcells g).length = i * 3 + j by show (i + 1) * 3 + j - 3 = _; omega]
      exact this
/-- filters that lie in memory below block B, and whose names are texts that fit -/
def Fs (w : World) (B n : Nat) (v : Value) (l : List Flt) : Prop := Sl w B 3 n v (fsCells l) ∧ ∀ f ∈ l, f.nm.length ≤ 1048576
theorem Fs.len {w : World} {B n : Nat} {v : Value} {l : List Flt} (h : Fs w B n v l) : l.length = n := by
  have := h.1.1; rw [fsCells_len] at this; omega
theorem Fs.at_ {w : World} {B n c : Nat} {A : Option Addr} {l : List Flt} (h : Fs w B n (.slice A n c) l) {k : Nat} (hk : k < n) :
    ∃ b o f s, A = some ⟨b, o, none⟩ ∧ b < B ∧ l[k]? = some f ∧ s.size ≤ 1048576 ∧ f = ⟨f.k, s.data.toList, f.n⟩ ∧ w.cell? ⟨b, o + k * 3, none⟩ = some (.int .i64 f.k) ∧ w.cell? ⟨b, o + k * 3 + 1, none⟩ = some (.string s) ∧ w.cell? ⟨b, o + k * 3 + 2, none⟩ = some (.int .i64 f.n) := by
  have hl := h.len
  obtain ⟨hl3, A', c', he, h2, h3, h4⟩ := h.1
  obtain ⟨rfl, rfl⟩ : A = A' ∧ c = c' := by simpa using he
  obtain ⟨b, o, e, hb, hc⟩ := h4 (by omega)
  have hf : l[k]? = some (l[k]'(by omega)) := List.getElem?_eq_getElem (by omega)
  generalize l[k]'(by omega) = f at hf
  have g0 := hc (k * 3 + 0) (.int .i64 f.k) (by rw [fsCells_at l k 0 f hf (by omega)]; rfl)
  have g1 := hc (k * 3 + 1) (txt f.nm) (by rw [fsCells_at l k 1 f hf (by omega)]; rfl)
  have g2 := hc (k * 3 + 2) (.int .i64 f.n) (by rw [fsCells_at l k 2 f hf (by omega)]; rfl)
  refine ⟨b, o, f, ⟨f.nm.toArray⟩, e, hb, hf, ?_, ?_, ?_, ?_, ?_⟩
  · rw [Lib.size_eq]; simp; exact h.2 f (List.mem_of_getElem? hf)
  · cases f; simp
  · rw [← g0]; rfl
  · rw [show o + k * 3 + 1 = o + (k * 3 + 1) from by omega, g1]; rfl
  · rw [show o + k * 3 + 2 = o + (k * 3 + 2) from by omega, g2]
theorem filters_step (l : List Flt) (k : Nat) (f : Flt) (h : (l.take k).all fltOk = true) (hf : l[k]? = some f) (ho : fltOk f = true) : (l.take (k + 1)).all fltOk = true := by
  rw [List.take_add_one, hf]; simp [List.all_append, h, ho]
theorem filters_no (l : List Flt) (k : Nat) (f : Flt) (hf : l[k]? = some f) (ho : fltOk f = false) : filtersOk l = false := by
  cases hn : filtersOk l with
  | false => rfl
  | true =>
    simp only [filtersOk, Bool.and_eq_true, List.all_eq_true] at hn
    have := hn.1 f (List.mem_of_getElem? hf)
    rw [ho] at this; cases this

set_option maxHeartbeats 2000000 in
set_option maxRecDepth 100000 in
theorem implValidFilters_c (v : Value) (n B : Nat) (l : List Flt) (w : World) (hv : Fs w B n v l) (hB : B ≤ w.heap.size) :
    Calls Tryz.prog 97 #[v] w (BoolPost w (filtersOk l)) := by
  have hln := hv.len
  obtain ⟨A, c, rfl, hnc, hcm⟩ := hv.1.form
  unfold maxLen at hcm
  by_cases h3 : (3 : Int) < (n : Int)
  · have HE := hid (show filtersOk l = false by
      unfold filtersOk
      rw [decide_eq_false (show ¬ l.length ≤ 3 by omega), Bool.and_false])
    clear hln hv
    go_enter Tryz.func97, Tryz.ntmps97
    go_wp2_with fail
    go_ret
    exact ⟨ret_bool HE.out.symm, Below.refl _ _⟩
  have HV := hid (And.intro hv hln)
  clear hv hln
  go_enter Tryz.func97, Tryz.ntmps97
  go_wp2_with fail
  go_loopw [10] (fun iv wr => ∃ k : Nat, iv = .int .i64 k ∧ k ≤ n ∧ Hid ((l.take k).all fltOk = true) ∧ Hid (Below w.heap.size w wr)) (fun iv _ => n - (intOf iv).toNat)
  case atStart => exact ⟨0, rfl, by omega, by simp [Hid], Below.refl _ _⟩
  case round =>
    obtain ⟨k, rfl, hk, HL, HB⟩ := hrel
    by_cases hlt : k < n
    · obtain ⟨b, o, f, s, rfl, hbB, hf, hs, hfe, g0, g1, g2⟩ := HV.out.1.at_ hlt
      have c0 : wr.cell? ⟨b, o + k * 3, none⟩ = some (.int .i64 f.k) := (HB.out.cell (p := ⟨b, o + k * 3, none⟩) (by show b < _; omega)).trans g0
      have c1 : wr.cell? ⟨b, o + k * 3 + 1, none⟩ = some (.string s) := (HB.out.cell (p := ⟨b, o + k * 3 + 1, none⟩) (by show b < _; omega)).trans g1
      have c2 : wr.cell? ⟨b, o + k * 3 + 2, none⟩ = some (.int .i64 f.n) := (HB.out.cell (p := ⟨b, o + k * 3 + 2, none⟩) (by show b < _; omega)).trans g2
      have hcall := fun W => implValidFilter_c f.k f.n s W (by unfold maxLen; omega)
      rw [← hfe] at hcall
      have HF := hid (And.intro hf hfe)
      have hsz := HB.out.size
      clear hf hfe g0 g1 g2
      cases ho : fltOk f with
      | true =>
        rw [ho] at hcall
        have HO := hid ho
        have HC := hid hcall
        clear ho hcall
        go_wp2_with fail
        refine (HC.out _).mono ?_
        rintro e w1 ⟨rfl, hb⟩
        have HB1 := hid ((HB.out.alloc hsz (.cells #[.int .i64 f.k, .string s, .int .i64 f.n] 162)).trans (hb.mono (by simp; omega)))
        clear hb
        go_wp2_with fail
        go_roundw
        case rel => exact ⟨k + 1, by go_num, by omega, filters_step _ _ _ HL.out HF.out.1 HO.out, HB1.out⟩
        case measure => simp [intOf]; omega
      | false =>
        rw [ho] at hcall
        have HO := hid ho
        have HC := hid hcall
        clear ho hcall
        go_wp2_with fail
        refine (HC.out _).mono ?_
        rintro e w1 ⟨rfl, hb⟩
        have HB1 := hid ((HB.out.alloc hsz (.cells #[.int .i64 f.k, .string s, .int .i64 f.n] 162)).trans (hb.mono (by simp; omega)))
        clear hb
        go_wp2_with fail
        go_ret
        exact ⟨ret_bool (filters_no _ _ _ HF.out.1 HO.out).symm, HB1.out⟩
    · have HE := hid (show filtersOk l = true by
        have h1 := HL.out
        rw [List.take_of_length_le (by have := HV.out.2; omega)] at h1
        unfold filtersOk
        rw [h1, decide_eq_true (show l.length ≤ 3 by have := HV.out.2; omega)]; rfl)
      go_wp2_with fail
      go_ret
      exact ⟨ret_bool HE.out.symm, HB.out⟩

theorem flt0 (f : Flt) (h : f.k = 0) : fltOk f = (!decide (f.nm = []) && (nameOk f.nm && decide (f.n = 0))) := by simp [fltOk, h]
theorem flt2 (f : Flt) (h : f.k = 2) : fltOk f = (wordOk f.nm && decide (f.n = 0)) := by simp [fltOk, h]
theorem flt13 (f : Flt) (h : f.k = 1 ∨ f.k = 3) : fltOk f = (decide (f.nm = []) && (decide (1 ≤ f.n) && decide (f.n ≤ 60))) := by
  rcases h with h | h <;> simp [fltOk, h]
theorem fltx (f : Flt) (h0 : ¬ f.k = 0) (h2 : ¬ f.k = 2) (h13 : ¬ (f.k = 1 ∨ f.k = 3)) : fltOk f = false := by simp [fltOk, h0, h2, h13]

set_option maxHeartbeats 4000000 in
set_option maxRecDepth 100000 in
theorem validFilters_c (v : Value) (n B : Nat) (l : List Flt) (w : World) (hv : Fs w B n v l) (hB : B ≤ w.heap.size) :
    Calls Tryz.prog 107 #[v] w (BoolPost w (filtersOk l)) := by
  have hln := hv.len
  obtain ⟨A, c, rfl, hnc, hcm⟩ := hv.1.form
  unfold maxLen at hcm
  have HV := hid (And.intro hv hln)
  clear hv hln
  go_enter Tryz.func107, Tryz.ntmps107
  go_wp2_with fail
  go_loopw [3] (fun iv wr => ∃ k : Nat, iv = .int .i64 k ∧ k ≤ n ∧ Hid ((l.take k).all fltOk = true) ∧ Hid (Below w.heap.size w wr)) (fun iv _ => n - (intOf iv).toNat)
  case atStart => exact ⟨0, rfl, by omega, by simp [Hid], Below.refl _ _⟩
  case round =>
    obtain ⟨k, rfl, hk, HL, HB⟩ := hrel
    by_cases hlt : k < n
    · obtain ⟨b, o, f, s, rfl, hbB, hf, hs, hfe, g0, g1, g2⟩ := HV.out.1.at_ hlt
      have c0 : wr.cell? ⟨b, o + k * 3, none⟩ = some (.int .i64 f.k) := (HB.out.cell (p := ⟨b, o + k * 3, none⟩) (by show b < _; omega)).trans g0
      have c1 : wr.cell? ⟨b, o + k * 3 + 1, none⟩ = some (.string s) := (HB.out.cell (p := ⟨b, o + k * 3 + 1, none⟩) (by show b < _; omega)).trans g1
      have c2 : wr.cell? ⟨b, o + k * 3 + 2, none⟩ = some (.int .i64 f.n) := (HB.out.cell (p := ⟨b, o + k * 3 + 2, none⟩) (by show b < _; omega)).trans g2
      have hnm : f.nm = s.data.toList := by rw [hfe]
      have HF := hid (And.intro hf hnm)
      have hsz := HB.out.size
      have HBX := hid (HB.out.alloc hsz (.cells #[.int .i64 f.k, .string s, .int .i64 f.n] 162))
      have CX := hid (fun (W : World) (hb : Below (wr.alloc (.cells #[.int .i64 f.k, .string s, .int .i64 f.n] 162)).heap.size (wr.alloc (.cells #[.int .i64 f.k, .string s, .int .i64 f.n] 162)) W) (j : Nat) =>
        (hb.cell (p := ⟨wr.heap.size, j, none⟩) (by simp)).trans (cell_of_row _ wr.heap.size j _ _ _ (heap_alloc_new wr _)))
      clear hf hfe hnm g0 g1 g2
      by_cases k0 : f.k = 0
      · have HE := hid (flt0 f k0)
        rw [HF.out.2] at HE
        have b0 : (f.k == 0) = true := by simpa using k0
        have V := hid (fun W => validName_c s W hs)
        generalize nameOk s.data.toList = x at V HE
        clear k0
        go_wp2_with fail
        refine (V.out _).mono ?_
        rintro e w1 ⟨rfl, hb⟩
        have d1 : w1.cell? ⟨wr.heap.size, 1, none⟩ = some (.string s) := CX.out w1 hb 1
        have d2 : w1.cell? ⟨wr.heap.size, 2, none⟩ = some (.int .i64 f.n) := CX.out w1 hb 2
        have HBX := hid (HBX.out.trans (hb.mono (by simp; omega)))
        clear hb
        cases x with
        | false =>
          have HO := hid (show fltOk f = false by rw [HE.out]; simp)
          go_wp2_with fail
          go_ret
          exact ⟨ret_bool (filters_no _ _ _ HF.out.1 HO.out).symm, HBX.out⟩
        | true =>
          by_cases hne : s.data.toList = []
          · have e1 := empty_true hne
            rw [decide_eq_true hne] at HE
            clear hne
            have HO := hid (show fltOk f = false by rw [HE.out]; rfl)
            go_wp2_with fail
            go_ret
            exact ⟨ret_bool (filters_no _ _ _ HF.out.1 HO.out).symm, HBX.out⟩
          · have e1 := empty_false hne
            rw [decide_eq_false hne] at HE
            clear hne
            by_cases hn0 : f.n = 0
            · have b3 : (f.n != 0) = false := by simpa using hn0
              rw [decide_eq_true hn0] at HE
              clear hn0
              have HO := hid (show fltOk f = true by rw [HE.out]; rfl)
              go_wp2_with fail
              go_roundw
              case rel => exact ⟨k + 1, by go_num, by omega, filters_step _ _ _ HL.out HF.out.1 HO.out, HBX.out⟩
              case measure => simp [intOf]; omega
            · have b3 : (f.n != 0) = true := by simpa using hn0
              rw [decide_eq_false hn0] at HE
              clear hn0
              have HO := hid (show fltOk f = false by rw [HE.out]; rfl)
              go_wp2_with fail
              go_ret
              exact ⟨ret_bool (filters_no _ _ _ HF.out.1 HO.out).symm, HBX.out⟩
      have b0 : (f.k == 0) = false := by simpa using k0
      by_cases k2 : f.k = 2
      · have HE := hid (flt2 f k2)
        rw [HF.out.2] at HE
        have b2 : (f.k == 2) = true := by simpa using k2
        have V := hid (fun W => validWord_c s W (by unfold maxLen; omega))
        generalize wordOk s.data.toList = x at V HE
        clear k0 k2
        go_wp2_with fail
        refine (V.out _).mono ?_
        rintro e w1 ⟨rfl, rfl⟩
        cases x with
        | false =>
          have HO := hid (show fltOk f = false by rw [HE.out]; rfl)
          go_wp2_with fail
          go_ret
          exact ⟨ret_bool (filters_no _ _ _ HF.out.1 HO.out).symm, HBX.out⟩
        | true =>
          by_cases hn0 : f.n = 0
          · have b3 : (f.n != 0) = false := by simpa using hn0
            rw [decide_eq_true hn0] at HE
            clear hn0
            have HO := hid (show fltOk f = true by rw [HE.out]; rfl)
            go_wp2_with fail
            go_roundw
            case rel => exact ⟨k + 1, by go_num, by omega, filters_step _ _ _ HL.out HF.out.1 HO.out, HBX.out⟩
            case measure => simp [intOf]; omega
          · have b3 : (f.n != 0) = true := by simpa using hn0
            rw [decide_eq_false hn0] at HE
            clear hn0
            have HO := hid (show fltOk f = false by rw [HE.out]; rfl)
            go_wp2_with fail
            go_ret
            exact ⟨ret_bool (filters_no _ _ _ HF.out.1 HO.out).symm, HBX.out⟩
      have b2 : (f.k == 2) = false := by simpa using k2
      by_cases k13 : f.k = 1 ∨ f.k = 3
      · have HE := hid (flt13 f k13)
        rw [HF.out.2] at HE
        have hm : ∃ b1 b3 : Bool, (f.k == 1) = b1 ∧ (f.k == 3) = b3 ∧ (b1 || b3) = true := ⟨_, _, rfl, rfl, by simpa using k13⟩
        obtain ⟨b1, b3, h1, h3, h13⟩ := hm
        have V := hid (fun W => inRange_c f.n 1 60 W)
        generalize (decide (1 ≤ f.n) && decide (f.n ≤ 60)) = r at V HE
        clear k13 k0 k2
        by_cases hne : s.data.toList = []
        · have e1 : (!s.toList.isEmpty) = false := by rw [empty_true hne]; rfl
          have e2 := empty_true hne
          rw [decide_eq_true hne, Bool.true_and] at HE
          clear hne
          cases b1 with
          | true =>
            go_wp2_with fail
            refine (V.out _).mono ?_
            rintro e w1 ⟨rfl, rfl⟩
            cases r with
            | true =>
              have HO := hid (show fltOk f = true by rw [HE.out])
              go_wp2_with fail
              go_roundw
              case rel => exact ⟨k + 1, by go_num, by omega, filters_step _ _ _ HL.out HF.out.1 HO.out, HBX.out⟩
              case measure => simp [intOf]; omega
            | false =>
              have HO := hid (show fltOk f = false by rw [HE.out])
              go_wp2_with fail
              go_ret
              exact ⟨ret_bool (filters_no _ _ _ HF.out.1 HO.out).symm, HBX.out⟩
          | false =>
            cases b3 with
            | false => simp at h13
            | true =>
              go_wp2_with fail
              refine (V.out _).mono ?_
              rintro e w1 ⟨rfl, rfl⟩
              cases r with
              | true =>
                have HO := hid (show fltOk f = true by rw [HE.out])
                go_wp2_with fail
                go_roundw
                case rel => exact ⟨k + 1, by go_num, by omega, filters_step _ _ _ HL.out HF.out.1 HO.out, HBX.out⟩
                case measure => simp [intOf]; omega
              | false =>
                have HO := hid (show fltOk f = false by rw [HE.out])
                go_wp2_with fail
                go_ret
                exact ⟨ret_bool (filters_no _ _ _ HF.out.1 HO.out).symm, HBX.out⟩
        · have e1 : (!s.toList.isEmpty) = true := by rw [empty_false hne]; rfl
          have e2 := empty_false hne
          rw [decide_eq_false hne, Bool.false_and] at HE
          clear hne
          cases b1 with
          | true =>
            have HO := hid (show fltOk f = false by rw [HE.out])
            go_wp2_with fail
            go_ret
            exact ⟨ret_bool (filters_no _ _ _ HF.out.1 HO.out).symm, HBX.out⟩
          | false =>
            cases b3 with
            | false => simp at h13
            | true =>
              have HO := hid (show fltOk f = false by rw [HE.out])
              go_wp2_with fail
              go_ret
              exact ⟨ret_bool (filters_no _ _ _ HF.out.1 HO.out).symm, HBX.out⟩
      · have b1 : (f.k == 1) = false := by
          rw [beq_eq_false_iff_ne]; exact fun h => k13 (.inl h)
        have b3 : (f.k == 3) = false := by
          rw [beq_eq_false_iff_ne]; exact fun h => k13 (.inr h)
        have HE := hid (fltx f k0 k2 k13)
        clear k13 k0 k2
        have HO := hid (show fltOk f = false by exact HE.out)
        go_wp2_with fail
        go_ret
        exact ⟨ret_bool (filters_no _ _ _ HF.out.1 HO.out).symm, HBX.out⟩
    · have HE := hid (show filtersOk l = decide ((n : Int) ≤ 3) by
        have h1 := HL.out
        rw [List.take_of_length_le (by have := HV.out.2; omega)] at h1
        unfold filtersOk
        rw [h1, Bool.true_and]
        exact decide_eq_decide.2 (by have := HV.out.2; omega))
      go_wp2_with fail
      go_ret
      exact ⟨ret_bool HE.out.symm, HB.out⟩

end Go.Proofs.YtlifaeleoiodkaaGreatDoor

/-
  WALKS: the law FnExactValidFilters, and what it calls (szFilter, szFilterS, toFilter, toFilterS, eqFilter, eqFilterS).
-/
namespace Go.Proofs.YtlifaeleoiodkaaGreatDoor
open Go.RowKit Nm
set_option linter.unusedSimpArgs false
set_option linter.unusedVariables false

/-- a slice of filters, element by element -/
theorem Sl.flt {w : World} {B n c : Nat} {A : Option Addr} {l : List Flt} (h : Sl w B 3 n (.slice A n c) (fsCells l)) {k : Nat} (hk : k < n) :
    ∃ b o f s, A = some ⟨b, o, none⟩ ∧ b < B ∧ l[k]? = some f ∧ s.data.toList = f.nm ∧ w.cell? ⟨b, o + k * 3, none⟩ = some (.int .i64 f.k) ∧ w.cell? ⟨b, o + k * 3 + 1, none⟩ = some (.string s) ∧ w.cell? ⟨b, o + k * 3 + 2, none⟩ = some (.int .i64 f.n) := by
  have hl : l.length = n := by have := h.1; rw [fsCells_len] at this; omega
  obtain ⟨hl3, A', c', he, h2, h3, h4⟩ := h
  obtain ⟨rfl, rfl⟩ : A = A' ∧ c = c' := by simpa using he
  obtain ⟨b, o, e, hb, hc⟩ := h4 (by omega)
  have hf : l[k]? = some (l[k]'(by omega)) := List.getElem?_eq_getElem (by omega)
  generalize l[k]'(by omega) = f at hf
  have g0 := hc (k * 3 + 0) (.int .i64 f.k) (by rw [fsCells_at l k 0 f hf (by omega)]; rfl)
  have g1 := hc (k * 3 + 1) (txt f.nm) (by rw [fsCells_at l k 1 f hf (by omega)]; rfl)
  have g2 := hc (k * 3 + 2) (.int .i64 f.n) (by rw [fsCells_at l k 2 f hf (by omega)]; rfl)
  refine ⟨b, o, f, ⟨f.nm.toArray⟩, e, hb, hf, by simp, ?_, ?_, ?_⟩
  · rw [← g0]; rfl
  · rw [show o + k * 3 + 1 = o + (k * 3 + 1) from by omega, g1]; rfl
  · rw [show o + k * 3 + 2 = o + (k * 3 + 2) from by omega, g2]
theorem Sl.flen {w : World} {B n : Nat} {v : Value} {l : List Flt} (h : Sl w B 3 n v (fsCells l)) : l.length = n := by
  have := h.1; rw [fsCells_len] at this; omega

def SzOne (left : Int) (len : Nat) (w : World) (e : Ending) (w' : World) : Prop :=
  ∃ r : Int, e = .returned (.int .i64 r) ∧ Below w.heap.size w w' ∧ (r < 0 ∨ (0 ≤ r ∧ r ≤ left ∧ (len : Int) ≤ left))

set_option maxHeartbeats 1000000 in
set_option maxRecDepth 100000 in
theorem szFilter_c (k n left : Int) (s : ByteArray) (w : World) (hs : s.size ≤ maxLen) (h0 : 0 ≤ left) (h1 : left ≤ 1048576) :
    Calls Tryz.prog 128 #[.agg #[.int .i64 k, .string s, .int .i64 n], .int .i64 left] w (SzOne left s.size w) := by
  unfold maxLen at hs
  have HB := hid (show Below w.heap.size w (w.alloc (.cells #[.int .i64 k, .string s, .int .i64 n] 182)) from (Below.refl _ _).alloc (Nat.le_refl _) _)
  by_cases hl : left - (s.size : Int) < 0
  · go_enter Tryz.func128, Tryz.ntmps128
    go_wp2_with fail
    go_ret
    exact ⟨_, rfl, HB.out, .inl (by omega)⟩
  · go_enter Tryz.func128, Tryz.ntmps128
    go_wp2_with fail
    go_ret
    exact ⟨_, rfl, HB.out, .inr ⟨by omega, by omega, by omega⟩⟩

def SzAll (left : Int) (l : List Flt) (w : World) (e : Ending) (w' : World) : Prop :=
  ∃ r : Int, e = .returned (.int .i64 r) ∧ Below w.heap.size w w' ∧ (r < 0 ∨ (0 ≤ r ∧ r ≤ left ∧ (l.length : Int) ≤ left ∧ ∀ f ∈ l, (f.nm.length : Int) ≤ left))

set_option maxHeartbeats 2000000 in
set_option maxRecDepth 100000 in
theorem szFilterS_c (v : Value) (n B : Nat) (l : List Flt) (left : Int) (w : World) (hv : Sl w B 3 n v (fsCells l)) (hB : B ≤ w.heap.size) (hm : ∀ f ∈ l, f.nm.length ≤ maxLen) (h0 : 0 ≤ left) (h1 : left ≤ 1048576) :
    Calls Tryz.prog 105 #[v, .int .i64 left] w (SzAll left l w) := by
  have hln := hv.flen
  obtain ⟨A, c, rfl, hnc, hcm⟩ := hv.form
  unfold maxLen at hcm
  have HV := hid (And.intro hv (And.intro hm hln))
  clear hv hm hln
  by_cases hl : left - (n : Int) < 0
  · go_enter Tryz.func105, Tryz.ntmps105
    go_wp2_with fail
    go_ret
    exact ⟨_, rfl, Below.refl _ _, .inl (by omega)⟩
  go_enter Tryz.func105, Tryz.ntmps105
  go_wp2_with fail
  go_loopw [1, 5] (fun lv iv wr => ∃ (k : Nat) (q : Int), iv = .int .i64 k ∧ lv = .int .i64 q ∧ k ≤ n ∧ 0 ≤ q ∧ q ≤ left ∧ Hid (∀ f ∈ l.take k, (f.nm.length : Int) ≤ left) ∧ Hid (Below w.heap.size w wr)) (fun _ iv _ => n - (intOf iv).toNat)
  case atStart => exact ⟨0, _, rfl, rfl, by omega, by omega, by omega, by intro f hf; simp at hf, Below.refl _ _⟩
  case round =>
    obtain ⟨k, q, rfl, rfl, hk, hq0, hq1, HL, HB⟩ := hrel
    by_cases hlt : k < n
    · obtain ⟨b, o, f, s, rfl, hbB, hf, hfs, g0, g1, g2⟩ := HV.out.1.flt hlt
      have c0 : wr.cell? ⟨b, o + k * 3, none⟩ = some (.int .i64 f.k) := (HB.out.cell (p := ⟨b, o + k * 3, none⟩) (by show b < _; omega)).trans g0
      have c1 : wr.cell? ⟨b, o + k * 3 + 1, none⟩ = some (.string s) := (HB.out.cell (p := ⟨b, o + k * 3 + 1, none⟩) (by show b < _; omega)).trans g1
      have c2 : wr.cell? ⟨b, o + k * 3 + 2, none⟩ = some (.int .i64 f.n) := (HB.out.cell (p := ⟨b, o + k * 3 + 2, none⟩) (by show b < _; omega)).trans g2
      have hcall := hid (fun W => szFilter_c f.k f.n q s W (by rw [Lib.size_eq, hfs]; exact HV.out.2.1 f (List.mem_of_getElem? hf)) hq0 (by omega))
      have hss : s.size = f.nm.length := by rw [Lib.size_eq, hfs]
      have HF := hid (And.intro hf hss)
      clear hf hfs hss g0 g1 g2
      go_wp2_with fail
      refine (hcall.out _).mono ?_
      rintro e w1 ⟨r, rfl, hb, hr⟩
      have HB1 := hid (HB.out.trans (hb.mono HB.out.size))
      clear hb
      rcases hr with hr | ⟨hr0, hr1, hr2⟩
      · go_wp2_with fail
        go_ret
        exact ⟨_, rfl, HB1.out, .inl (by omega)⟩
      · go_wp2_with fail
        go_roundw
        case rel =>
          refine ⟨k + 1, r, by go_num, rfl, by omega, hr0, by omega, ?_, HB1.out⟩
          intro g hg
          rw [List.take_add_one, HF.out.1] at hg
          rcases List.mem_append.1 hg with hg | hg
          · exact HL.out g hg
          · simp at hg; subst hg; have := HF.out.2; omega
        case measure => simp [intOf]; omega
    · go_wp2_with fail
      go_ret
      refine ⟨_, rfl, HB.out, .inr ⟨hq0, hq1, by have := HV.out.2.2; omega, ?_⟩⟩
      have := HL.out
      rwa [List.take_of_length_le (by have := HV.out.2.2; omega)] at this

set_option maxHeartbeats 1000000 in
set_option maxRecDepth 100000 in
theorem toFilter_c (k n : Int) (s : ByteArray) (w : World) :
    Calls Tryz.prog 132 #[.agg #[.int .i64 k, .string s, .int .i64 n]] w fun e w' => e = .returned (.agg #[.int .i64 k, .string s, .int .i64 n]) ∧ Below w.heap.size w w' := by
  go_enter Tryz.func132, Tryz.ntmps132
  go_wp2_with fail
  go_returns
  exact ⟨rfl, by go_grown⟩

theorem Tryz.infoFlt : (Tryz.prog.info? 162).map (fun i => (i.zero, i.size, i.bytes)) = some (some (.agg #[.int .i64 0, .string ByteArray.empty, .int .i64 0]), 3, 32) := by kernel_rfl

/-- three cells of an owned row are written -/
theorem own_three {w : World} {base n c g : Nat} {e : TypeId} {xs : List Value} (h : w.ownsRow base e 3 (.slice (some ⟨g, 0, none⟩) n c) n xs) (j : Nat) (a b d : Value) :
    (((w.setCell ⟨g, j, none⟩ a).setCell ⟨g, j + 1, none⟩ b).setCell ⟨g, j + 2, none⟩ d).ownsRow base e 3 (.slice (some ⟨g, 0, none⟩) n c) n (((xs.set j a).set (j + 1) b).set (j + 2) d) :=
  ((((h.stored j a).1.stored (j + 1) b).1).stored (j + 2) d).1

set_option maxHeartbeats 4000000 in
set_option maxRecDepth 100000 in
theorem toFilterS_c (v : Value) (n B : Nat) (l : List Flt) (w : World) (hv : Sl w B 3 n v (fsCells l)) (hB : B ≤ w.heap.size) (hn : n ≤ 1048576) :
    Calls Tryz.prog 115 #[v] w fun e w' => ∃ v', e = .returned v' ∧ w'.ownsRow w.heap.size 162 3 v' n (fsCells l) ∧ Below w.heap.size w w' := by
  have hln := hv.flen
  obtain ⟨A, c, rfl, hnc, hcm⟩ := hv.form
  obtain ⟨i0, hi, hz0, hz1, hz2⟩ := info_parts Tryz.infoFlt
  unfold maxLen at hcm
  have HV := hid (And.intro hv hln)
  clear hv hln
  go_enter Tryz.func115, Tryz.ntmps115
  go_wp2_with (at_make; refine wpList_make_full _ rfl _ _ 110 rfl w.heap.size 162 i0 _ 3 Tryz.underlying110 hi hz0 hz1 .i64 .i64 _ _ n rfl rfl rfl rfl (by rw [hz2]; omega) (by unfold maxLen; omega) (Nat.le_refl _) ?_)
  intro w1 hown hg1
  have H1 := hid (And.intro hown (below_of_grown hg1 (Nat.le_refl _) (by simp)))
  clear hown hg1
  go_wp2_with fail
  go_loopw [4] (fun iv wr => ∃ (k : Nat) (xs : List Value), iv = .int .i64 k ∧ k ≤ n ∧ wr.ownsRow w.heap.size 162 3 (.slice (some ⟨w.heap.size, 0, none⟩) n n) n xs ∧ Hid (∀ j, j < k * 3 → xs[j]? = (fsCells l)[j]?) ∧ Hid (Below w.heap.size w wr)) (fun iv _ => n - (intOf iv).toNat)
  case atStart => exact ⟨0, _, rfl, by omega, H1.out.1, fun j hj => by omega, H1.out.2⟩
  case round =>
    obtain ⟨k, xs, rfl, hk, hown, HX, HB⟩ := hrel
    by_cases hlt : k < n
    · obtain ⟨b, o, f, s, rfl, hbB, hf, hfs, g0, g1, g2⟩ := HV.out.1.flt hlt
      have c0 : wr.cell? ⟨b, o + k * 3, none⟩ = some (.int .i64 f.k) := (HB.out.cell (p := ⟨b, o + k * 3, none⟩) (by show b < _; omega)).trans g0
      have c1 : wr.cell? ⟨b, o + k * 3 + 1, none⟩ = some (.string s) := (HB.out.cell (p := ⟨b, o + k * 3 + 1, none⟩) (by show b < _; omega)).trans g1
      have c2 : wr.cell? ⟨b, o + k * 3 + 2, none⟩ = some (.int .i64 f.n) := (HB.out.cell (p := ⟨b, o + k * 3 + 2, none⟩) (by show b < _; omega)).trans g2
      have hcall := hid (fun W => toFilter_c f.k f.n s W)
      have HF := hid (And.intro hf hfs)
      have HO := hid hown
      clear hf hfs g0 g1 g2 hown
      go_wp2_with fail
      refine (hcall.out _).mono ?_
      rintro e w2 ⟨rfl, hb⟩
      have hown2 := own_below HO.out hb
      have hxl := hown2.1
      have d0 : ∃ u, w2.cell? ⟨w.heap.size, k * 3, none⟩ = some u := ⟨_, (hown2.cellAt (k * 3) (by omega)).trans (List.getElem?_eq_getElem (by omega))⟩
      have d1 : ∃ u, w2.cell? ⟨w.heap.size, k * 3 + 1, none⟩ = some u := ⟨_, (hown2.cellAt (k * 3 + 1) (by omega)).trans (List.getElem?_eq_getElem (by omega))⟩
      have d2 : ∃ u, w2.cell? ⟨w.heap.size, k * 3 + 2, none⟩ = some u := ⟨_, (hown2.cellAt (k * 3 + 2) (by omega)).trans (List.getElem?_eq_getElem (by omega))⟩
      obtain ⟨u0, d0⟩ := d0
      obtain ⟨u1, d1⟩ := d1
      obtain ⟨u2, d2⟩ := d2
      have f0 := hown2.frozenAt (k * 3)
      have f1 := hown2.frozenAt (k * 3 + 1)
      have f2 := hown2.frozenAt (k * 3 + 2)
      have R := hid (own_three hown2 (k * 3) (.int .i64 f.k) (.string s) (.int .i64 f.n))
      have HB2 := hid (HB.out.trans (hb.mono HB.out.size))
      clear hown2 hb c0 c1 c2
      go_wp2_with fail
      go_roundw
      case rel =>
        refine ⟨k + 1, _, by go_num, by omega, R.out, ?_, ((HB2.out.setCell (Nat.le_refl _) _).setCell (Nat.le_refl _) _).setCell (Nat.le_refl _) _⟩
        intro j hj
        have s0 : (fsCells l)[k * 3]? = some (.int .i64 f.k) := by have := fsCells_at l k 0 f HF.out.1 (by omega); rw [Nat.add_zero] at this; rw [this]; rfl
        have s1 : (fsCells l)[k * 3 + 1]? = some (.string s) := by rw [fsCells_at l k 1 f HF.out.1 (by omega), ← txt_data, HF.out.2]; rfl
        have s2 : (fsCells l)[k * 3 + 2]? = some (.int .i64 f.n) := by rw [fsCells_at l k 2 f HF.out.1 (by omega)]; rfl
        have hxs : xs.length = n * 3 := hxl
        simp only [List.getElem?_set, List.length_set]
        by_cases e2 : j = k * 3 + 2
        · subst e2; rw [if_pos rfl, if_pos (by omega), s2]
        · rw [if_neg (by omega)]
          by_cases e1 : j = k * 3 + 1
          · subst e1; rw [if_pos rfl, if_pos (by omega), s1]
          · rw [if_neg (by omega)]
            by_cases e0 : j = k * 3
            · subst e0; rw [if_pos rfl, if_pos (by omega), s0]
            · rw [if_neg (by omega)]; exact HX.out j (by omega)
      case measure => simp [intOf]; omega
    · have HO := hid hown
      clear hown
      go_wp2_with fail
      go_ret
      refine ⟨_, rfl, ?_, HB.out⟩
      have e : xs = fsCells l := by
        have h1 := HO.out.1
        have h2 := fsCells_len l
        have h3 := HV.out.2
        apply List.ext_getElem?
        intro j
        by_cases hj : j < k * 3
        · exact HX.out j hj
        · rw [List.getElem?_eq_none (by omega), List.getElem?_eq_none (by omega)]
      rw [← e]
      exact HO.out

set_option maxHeartbeats 1000000 in
set_option maxRecDepth 100000 in
/-- two filters that are alike -/
theorem eqFilter_c (k n : Int) (s : ByteArray) (w : World) :
    Calls Tryz.prog 136 #[.agg #[.int .i64 k, .string s, .int .i64 n], .agg #[.int .i64 k, .string s, .int .i64 n]] w (BoolPost w true) := by
  have b0 : (k != k) = false := by simp
  have b1 : (s.toList != s.toList) = false := by simp
  have b2 : (n != n) = false := by simp
  go_enter Tryz.func136, Tryz.ntmps136
  go_wp2_with fail
  go_ret
  exact ⟨rfl, by go_grown⟩

set_option maxHeartbeats 4000000 in
set_option maxRecDepth 100000 in
/-- two slices that read as the same filters -/
theorem eqFilterS_c (v1 v2 : Value) (n B : Nat) (l : List Flt) (w : World) (h1 : Sl w B 3 n v1 (fsCells l)) (h2 : Sl w B 3 n v2 (fsCells l)) (hB : B ≤ w.heap.size) :
    Calls Tryz.prog 118 #[v1, v2] w (BoolPost w true) := by
  obtain ⟨A1, k1, rfl, _, hm1⟩ := h1.form
  obtain ⟨A2, k2, rfl, _, hm2⟩ := h2.form
  unfold maxLen at hm1 hm2
  have HS := hid (And.intro h1 h2)
  have b0 : ((n : Int) != (n : Int)) = false := by simp
  clear h1 h2
  go_enter Tryz.func118, Tryz.ntmps118
  go_wp2_with fail
  go_loopw [5] (fun iv wr => ∃ (i : Nat), iv = .int .i64 i ∧ i ≤ n ∧ Hid (Below w.heap.size w wr)) (fun iv _ => n - (intOf iv).toNat)
  case atStart => exact ⟨0, rfl, by omega, Below.refl _ _⟩
  case round =>
    obtain ⟨i, rfl, hi, HB⟩ := hrel
    by_cases hlt : i < n
    · obtain ⟨b, o, f, s, rfl, hb1, hf, hfs, g0, g1, g2⟩ := HS.out.1.flt hlt
      obtain ⟨b', o', f', s', rfl, hb2, hf', hfs', g0', g1', g2'⟩ := HS.out.2.flt hlt
      obtain rfl : f = f' := by rw [hf] at hf'; exact Option.some.inj hf'
      obtain rfl : s = s' := (bytes_eq_iff _ _).1 (by rw [hfs, hfs'])
      have c0 : wr.cell? ⟨b, o + i * 3, none⟩ = some (.int .i64 f.k) := (HB.out.cell (p := ⟨b, o + i * 3, none⟩) (by show b < _; omega)).trans g0
      have c1 : wr.cell? ⟨b, o + i * 3 + 1, none⟩ = some (.string s) := (HB.out.cell (p := ⟨b, o + i * 3 + 1, none⟩) (by show b < _; omega)).trans g1
      have c2 : wr.cell? ⟨b, o + i * 3 + 2, none⟩ = some (.int .i64 f.n) := (HB.out.cell (p := ⟨b, o + i * 3 + 2, none⟩) (by show b < _; omega)).trans g2
      have c0' : wr.cell? ⟨b', o' + i * 3, none⟩ = some (.int .i64 f.k) := (HB.out.cell (p := ⟨b', o' + i * 3, none⟩) (by show b' < _; omega)).trans g0'
      have c1' : wr.cell? ⟨b', o' + i * 3 + 1, none⟩ = some (.string s) := (HB.out.cell (p := ⟨b', o' + i * 3 + 1, none⟩) (by show b' < _; omega)).trans g1'
      have c2' : wr.cell? ⟨b', o' + i * 3 + 2, none⟩ = some (.int .i64 f.n) := (HB.out.cell (p := ⟨b', o' + i * 3 + 2, none⟩) (by show b' < _; omega)).trans g2'
      have E := hid (fun W => eqFilter_c f.k f.n s W)
      clear hf hf' hfs hfs' g0 g1 g2 g0' g1' g2'
      go_wp2_with fail
      go_region_with (go_at_call 136; refine (E.out _).mono ?_; rintro e w2 ⟨rfl, hb⟩)
      all_goals go_wp2_with fail
      all_goals
        go_roundw
        case rel => exact ⟨i + 1, by go_num, by omega, by first | exact HB.out.trans (hb.mono HB.out.size) | exact HB.out.drew.trans (hb.mono HB.out.size) | exact HB.out.drew.drew.trans (hb.mono HB.out.size)⟩
        case measure => simp [intOf]; omega
    · go_wp2_with fail
      go_ret
      exact ⟨rfl, HB.out⟩
end Go.Proofs.YtlifaeleoiodkaaGreatDoor

/-
  The law FnExactValidFilters: its argument opened, its walk.
-/
namespace Go.Proofs.YtlifaeleoiodkaaGreatDoor
open Go.RowKit Nm Go.ChangeShapes Go.WideShapes Go.Deep
set_option linter.unusedSimpArgs false
set_option linter.unusedVariables false

instance : Inhabited Flt := ⟨⟨0, [], 0⟩⟩

theorem block_le (a : Addr) (i : Nat) : (a.add i).block = a.block := by unfold Addr.add; split <;> rfl

/-- a struct of an int, a text and an int, in three cells -/
theorem open_flt {H : Type} {enc : TypeId × Value → H} {P : Program} {W : World} {base n : Nat} {sp : Nat → Bool} {hd : Bool} {e : TypeId} {f0 f1 f2 : Field} {cs : List Value} {x : DataW H × List MemPlace}
    (he : P.underlying e = some (.struct #[f0, f1, f2])) (hC : P.cellsOf e = 3) (hone : oneCellFields P #[f0, f1, f2] = true)
    (h0 : P.underlying f0.type = some (.int .i64)) (h1 : P.underlying f1.type = some .string) (h2 : P.underlying f2.type = some (.int .i64))
    (h : DataW.trod enc P W base sp hd n e cs = some x) : ∃ f : Flt, cs = fcells f ∧ f.nm.length ≤ maxLen := by
  obtain ⟨ys, m, _, _, hlen, hyl, hf⟩ := DataW.trod_struct he h
  rw [hC] at hlen
  match cs, hlen with
  | [a, b, c], _ =>
    have ho := hone_of hone
    have k0 := hf 0 f0 rfl
    have k1 := hf 1 f1 rfl
    have k2 := hf 2 f2 rfl
    rw [(ho 0 f0 rfl).1, (ho 0 f0 rfl).2] at k0
    rw [(ho 1 f1 rfl).1, (ho 1 f1 rfl).2] at k1
    rw [(ho 2 f2 rfl).1, (ho 2 f2 rfl).2] at k2
    have hys : ys.length = 3 := hyl
    rw [List.getElem?_eq_getElem (by omega)] at k0 k1 k2
    obtain ⟨p, e0, _, _⟩ := DataW.trod_int h0 k0
    obtain ⟨s, e1, _, hs⟩ := DataW.trod_string h1 k1
    obtain ⟨q, e2, _, _⟩ := DataW.trod_int h2 k2
    simp at e0 e1 e2
    subst e0; subst e1; subst e2
    exact ⟨⟨p, s.data.toList, q⟩, by simp [fcells, txt_data], by show s.data.toList.length ≤ _; rw [← Lib.size_eq]; exact hs⟩

/-- a slice of such structs -/
theorem open_flts {H : Type} {enc : TypeId × Value → H} {P : Program} {W : World} {base : Nat} {sp : Nat → Bool} {hd : Bool} {t e : TypeId} {f0 f1 f2 : Field} {v : Value} {d : DataW H} {pl : List MemPlace}
    (ht : P.underlying t = some (.slice e)) (he : P.underlying e = some (.struct #[f0, f1, f2])) (hC : P.cellsOf e = 3) (hone : oneCellFields P #[f0, f1, f2] = true)
    (h0 : P.underlying f0.type = some (.int .i64)) (h1 : P.underlying f1.type = some .string) (h2 : P.underlying f2.type = some (.int .i64))
    (hv : ∃ a len cap, v = .slice a len cap)
    (h : DataW.Trod enc P W base sp hd t v d pl) : ∃ (l : List Flt) (n : Nat), Sl W W.heap.size 3 n v (fsCells l) ∧ ∀ f ∈ l, f.nm.length ≤ maxLen := by
  obtain ⟨fuel, hf⟩ := h
  obtain ⟨A0, n0, c0, rfl⟩ := hv
  rcases open_slice ht hf with ⟨hcs, _⟩ | ⟨a, len, cap, m, n, D, Pl, hcs, hb, hl, hm, hmm, hx, hi⟩
  · simp [Value.cells] at hcs
    obtain ⟨rfl, rfl, rfl⟩ := hcs
    exact ⟨[], 0, Sl.nil _ _ _, by simp⟩
  · simp [Value.cells] at hcs
    obtain ⟨rfl, rfl, rfl⟩ := hcs
    rw [hC] at hi
    have hlm : n0 ≤ m := by rw [hmm]; split <;> omega
    have hel : ∀ i, i < n0 → ∃ f : Flt, (∀ j u, (fcells f)[j]? = some u → W.cell? (a.add (i * 3 + j)) = some u) ∧ f.nm.length ≤ maxLen := by
      intro i hin
      obtain ⟨cs', hc, ht'⟩ := hi i (by omega)
      obtain ⟨f, rfl, hfl⟩ := open_flt he hC hone h0 h1 h2 ht'
      obtain ⟨_, _, hat⟩ := World.cells?_some hc
      refine ⟨f, fun j u hu => ?_, hfl⟩
      have hj : j < 3 := (List.getElem?_eq_some_iff.1 hu).1
      rw [← Go.Deep.add_add, hat j hj, hu]
    obtain ⟨F, hF⟩ := choose_lt hel
    refine ⟨(List.range n0).map F, n0, ⟨by rw [fsCells_len]; simp, some a, c0, rfl, hl, hm, fun hn => ?_⟩, ?_⟩
    · have hz := (hF 0 hn).1 0 _ rfl
      obtain ⟨b, o, spt⟩ := a
      have hspot : spt = none := by simpa [Addr.add] using World.cell?_spot hz
      subst hspot
      have hlt : b < W.heap.size := by
        have := World.block_lt_of_cell? W _ hz
        rwa [block_le] at this
      refine ⟨b, o, rfl, hlt, fun j u hu => ?_⟩
      have hjl : j < n0 * 3 := by have := (List.getElem?_eq_some_iff.1 hu).1; rw [fsCells_len] at this; simpa using this
      have hq : j / 3 < n0 := by omega
      have hfl : ((List.range n0).map F)[j / 3]? = some (F (j / 3)) := by simp [hq]
      have hsp := fsCells_at _ (j / 3) (j % 3) _ hfl (Nat.mod_lt _ (by omega))
      rw [show j / 3 * 3 + j % 3 = j by omega, hu] at hsp
      have := (hF (j / 3) hq).1 (j % 3) u hsp.symm
      rw [show j / 3 * 3 + j % 3 = j by omega, Addr.add_lit] at this
      exact this
    · intro f hfm
      obtain ⟨i, hir, rfl⟩ := List.mem_map.1 hfm
      exact (hF i (List.mem_range.1 hir)).2

end Go.Proofs.YtlifaeleoiodkaaGreatDoor

/-
  A map[string]bool that the call itself makes: which texts are in it.
-/
namespace Go.Proofs.YtlifaeleoiodkaaGreatDoor
open Go.RowKit Nm
open Go.WideMaps
set_option linter.unusedSimpArgs false
set_option linter.unusedVariables false

theorem zeroBool (w : World) : (zeroValue 4).run Tryz.prog w = .ok (.bool false) w := by kernel_rfl
theorem plainElem_bool_inv {H : Type} {P : Program} {e : TypeId} (he : P.underlying e = some .bool) {v : Value} {z : DataW H × List MemPlace} (h : plainElem P e v = some z) : ∃ c, v = .bool c ∧ z = (.lit (.bool c), []) := by
  unfold plainElem at h
  rw [he] at h
  cases v <;> simp at h
  subst h
  exact ⟨_, rfl, rfl⟩
/-- block b is a map that says f of each text, of at most n entries -/
def SetM (w : World) (b n : Nat) (f : List UInt8 → Bool) : Prop :=
  ∃ D : DataW Unit, Maps.IsMap D ∧ w.ownsMap Tryz.prog 9 (plainElem Tryz.prog 4) b n D ∧ ∀ l, D.atKey (.string l) (.lit (.bool false)) = .lit (.bool (f l))
theorem SetM.made (w : World) : SetM (w.alloc (.map #[] 0)) w.heap.size 0 (fun _ => false) :=
  ⟨.map [], ⟨[], rfl⟩, World.ownsMap_made w _ _ _, fun _ => rfl⟩
theorem SetM.kept {w w' : World} {b n : Nat} {f : List UInt8 → Bool} {row : Option Nat} (h : SetM w b n f) (hg : w.grownBy w' row) (hne : some b ≠ row) : SetM w' b n f := by
  obtain ⟨D, h1, h2, h3⟩ := h
  exact ⟨D, h1, h2.kept hg hne, h3⟩
theorem SetM.lt {w : World} {b n : Nat} {f : List UInt8 → Bool} (h : SetM w b n f) : b < w.heap.size := by
  obtain ⟨D, h1, h2, h3⟩ := h
  exact h2.lt
theorem SetM.below {w w' : World} {b n : Nat} {f : List UInt8 → Bool} (h : SetM w b n f) (hb : Below w.heap.size w w') : SetM w' b n f := h.kept (grown_of hb none) (by simp)
theorem SetM.alloc' {w : World} {b n : Nat} {f : List UInt8 → Bool} (h : SetM w b n f) (o : Obj) : SetM (w.alloc o) b n f := h.kept (World.grownBy_alloc w o none) (by simp)
/-- a look-up: the world stays -/
theorem SetM.look {w : World} {b n : Nat} {f : List UInt8 → Bool} (h : SetM w b n f) (s : ByteArray) (hs : s.size ≤ maxLen) :
    (Instr.lookup 149 (.map (some b)) (.string s) false).run Tryz.prog w = .ok (.bool (f s.data.toList)) w := by
  obtain ⟨D, h1, h2, h3⟩ := h
  obtain ⟨v, ps, hrun, hv⟩ := h2.lookup (Maps.string_keyed Tryz.underlying9) Tryz.underlying149 (zeroBool w) (plainElem_bool Tryz.underlying4 false) (keyOf_string_mk Tryz.underlying9 hs)
  obtain ⟨c, rfl, hc⟩ := plainElem_bool_inv Tryz.underlying4 hv
  have h6 : DataW.lit (H := Unit) (.bool (f s.data.toList)) = .lit (.bool c) := by
    have h7 := congrArg Prod.fst hc
    rw [← h3]; exact h7
  have h5 : f s.data.toList = c := Lit.bool.inj (DataW.lit.inj h6)
  rw [hrun, h5]
/-- a store, for the walk -/
theorem wpList_setM (w : World) {ops : Array Oper} {rest : List Oper} {o : Oper} {a : Act} {Q : Exit → Act → World → Prop} {b n : Nat} {f : List UInt8 → Bool} (h : SetM w b n f)
    (hg : o.guard = none) (m x v : Operand) (hop : o.op = Op.mapUpdate 149 m x v) (hm : a.eval m = .map (some b)) (hn : n < maxLen) (s : ByteArray) (hs : s.size ≤ maxLen) (c : Bool) (hx : a.eval x = .string s) (hv : a.eval v = .bool c)
    (hK : ∀ w', SetM w' b (n + 1) (fun l => if l = s.data.toList then c else f l) → w.grownBy w' (some b) → wpList Tryz.prog ops Q rest (a.put o.dst undef) w') :
    wpList Tryz.prog ops Q (o :: rest) a w := by
  obtain ⟨D, h1, h2, h3⟩ := h
  refine wpList_mapUpdate_own w hg m x v 149 hop 9 4 (Maps.string_keyed Tryz.underlying9) Tryz.underlying149 _ b n D hm h2 hn (.string s) (.bool c) (.string s.data.toList) hx hv
    (keyOf_string_mk Tryz.underlying9 hs) (.lit (.bool c)) [] (plainElem_bool Tryz.underlying4 c) ?_
  intro w' h4 h5
  refine hK w' ⟨_, ?_, h4, fun l => ?_⟩ h5
  · obtain ⟨es, rfl⟩ := h1; exact ⟨_, rfl⟩
  · by_cases hl : l = s.data.toList
    · subst hl
      rw [Maps.atKey_put_same h1 (by trivial)]; simp
    · rw [Maps.atKey_put_other (by intro e; injection e with e; exact hl e), h3]; simp [hl]
end Go.Proofs.YtlifaeleoiodkaaGreatDoor

/-
  A map keyed by texts that the call itself makes, with elements of whatever type: what it says of each text, as a value.
-/
namespace Go.Proofs.YtlifaeleoiodkaaGreatDoor
open Go.RowKit Nm
open Go.WideMaps
set_option linter.unusedSimpArgs false
set_option linter.unusedVariables false

/-- an element reads as itself -/
def asHeld (v : Value) : Option (DataW Value × List MemPlace) := some (.held v, [])
/-- block b is a map, of at most n entries, that says f of each text, z where there is nothing -/
def MapV (w : World) (z : Value) (b n : Nat) (f : List UInt8 → Value) : Prop :=
  ∃ D : DataW Value, Maps.IsMap D ∧ w.ownsMap Tryz.prog 9 asHeld b n D ∧ ∀ l, D.atKey (.string l) (.held z) = .held (f l)
theorem MapV.made (w : World) (z : Value) : MapV (w.alloc (.map #[] 0)) z w.heap.size 0 (fun _ => z) :=
  ⟨.map [], ⟨[], rfl⟩, World.ownsMap_made w _ _ _, fun _ => rfl⟩
section
variable {w w' : World} {z : Value} {b n : Nat} {f : List UInt8 → Value}
theorem MapV.kept {row : Option Nat} (h : MapV w z b n f) (hg : w.grownBy w' row) (hne : some b ≠ row) : MapV w' z b n f := by
  obtain ⟨D, h1, h2, h3⟩ := h
  exact ⟨D, h1, h2.kept hg hne, h3⟩
theorem MapV.lt (h : MapV w z b n f) : b < w.heap.size := by
  obtain ⟨D, h1, h2, h3⟩ := h
  exact h2.lt
theorem MapV.below (h : MapV w z b n f) (hb : Below w.heap.size w w') : MapV w' z b n f := h.kept (grown_of hb none) (by simp)
theorem MapV.under {B : Nat} (h : MapV w z b n f) (hb : Below B w w') (hlt : b < B) : MapV w' z b n f := by
  obtain ⟨D, h1, ⟨es, clock, h2, h4⟩, h3⟩ := h
  exact ⟨D, h1, ⟨es, clock, (hb.block b hlt).trans h2, h4⟩, h3⟩
theorem MapV.alloc' (h : MapV w z b n f) (o : Obj) : MapV (w.alloc o) z b n f := h.kept (World.grownBy_alloc w o none) (by simp)
theorem MapV.congr {g : List UInt8 → Value} (h : MapV w z b n f) (e : ∀ l, f l = g l) : MapV w z b n g := by
  have : f = g := funext e
  rwa [← this]
/-- a look-up: the world stays -/
theorem MapV.look {t e : TypeId} (h : MapV w z b n f) (ht : Tryz.prog.underlying t = some (.map 9 e)) (hz : (zeroValue e).run Tryz.prog w = .ok z w) (s : ByteArray) (hs : s.size ≤ maxLen) :
    (Instr.lookup t (.map (some b)) (.string s) false).run Tryz.prog w = .ok (f s.data.toList) w := by
  obtain ⟨D, h1, h2, h3⟩ := h
  obtain ⟨v, ps, hrun, hv⟩ := h2.lookup (Maps.string_keyed Tryz.underlying9) ht hz (show asHeld z = some (.held z, []) from rfl) (keyOf_string_mk Tryz.underlying9 hs)
  rw [h3] at hv
  simp only [asHeld, Option.some.injEq, Prod.mk.injEq, DataW.held.injEq] at hv
  rw [hrun, hv.1]
end
/-- a store, for the walk -/
theorem wpList_mapV (w : World) {ops : Array Oper} {rest : List Oper} {o : Oper} {a : Act} {Q : Exit → Act → World → Prop} {z : Value} {b n : Nat} {f : List UInt8 → Value} (h : MapV w z b n f)
    (t e : TypeId) (ht : Tryz.prog.underlying t = some (.map 9 e)) (hg : o.guard = none) (m x v : Operand) (hop : o.op = Op.mapUpdate t m x v) (hm : a.eval m = .map (some b)) (hn : n < maxLen)
    (s : ByteArray) (hs : s.size ≤ maxLen) (u : Value) (hx : a.eval x = .string s) (hv : a.eval v = u)
    (hK : ∀ w', MapV w' z b (n + 1) (fun l => if l = s.data.toList then u else f l) → w.grownBy w' (some b) → wpList Tryz.prog ops Q rest (a.put o.dst undef) w') :
    wpList Tryz.prog ops Q (o :: rest) a w := by
  obtain ⟨D, h1, h2, h3⟩ := h
  refine wpList_mapUpdate_own w hg m x v t hop 9 e (Maps.string_keyed Tryz.underlying9) ht asHeld b n D hm h2 hn (.string s) u (.string s.data.toList) hx hv
    (keyOf_string_mk Tryz.underlying9 hs) (.held u) [] rfl ?_
  intro w' h4 h5
  refine hK w' ⟨_, ?_, h4, fun l => ?_⟩ h5
  · obtain ⟨es, rfl⟩ := h1; exact ⟨_, rfl⟩
  · by_cases hl : l = s.data.toList
    · subst hl
      rw [Maps.atKey_put_same h1 (by trivial)]; simp
    · rw [Maps.atKey_put_other (by intro e; injection e with e; exact hl e), h3]; simp [hl]
end Go.Proofs.YtlifaeleoiodkaaGreatDoor

/-
  A map keyed by texts that the call itself makes: what it holds, key by key; ranges over it.
-/
namespace Go.Proofs.YtlifaeleoiodkaaGreatDoor
open Go.RowKit Nm
open Go.WideMaps
set_option linter.unusedSimpArgs false
set_option linter.unusedVariables false

/-- block b is a map, of at most n entries, that holds g of each text -/
def MapP (w : World) (b n : Nat) (g : List UInt8 → Option Value) : Prop :=
  ∃ D : DataW Value, Maps.IsMap D ∧ w.ownsMap Tryz.prog 9 asHeld b n D ∧ (∀ z l, D.atKey (.string l) (.held z) = .held ((g l).getD z)) ∧ ∀ l, Maps.has D (.string l) = (g l).isSome
theorem MapP.made (w : World) : MapP (w.alloc (.map #[] 0)) w.heap.size 0 (fun _ => none) :=
  ⟨.map [], ⟨[], rfl⟩, World.ownsMap_made w _ _ _, fun _ _ => rfl, fun _ => rfl⟩
section
variable {w w' : World} {b n : Nat} {g : List UInt8 → Option Value}
theorem MapP.kept {row : Option Nat} (h : MapP w b n g) (hg : w.grownBy w' row) (hne : some b ≠ row) : MapP w' b n g := by
  obtain ⟨D, h1, h2, h3⟩ := h
  exact ⟨D, h1, h2.kept hg hne, h3⟩
theorem MapP.lt (h : MapP w b n g) : b < w.heap.size := by
  obtain ⟨D, h1, h2, h3⟩ := h
  exact h2.lt
theorem MapP.below (h : MapP w b n g) (hb : Below w.heap.size w w') : MapP w' b n g := h.kept (grown_of hb none) (by simp)
theorem MapP.under {B : Nat} (h : MapP w b n g) (hb : Below B w w') (hlt : b < B) : MapP w' b n g := by
  obtain ⟨D, h1, ⟨es, clock, h2, h4⟩, h3⟩ := h
  exact ⟨D, h1, ⟨es, clock, (hb.block b hlt).trans h2, h4⟩, h3⟩
theorem MapP.alloc' (h : MapP w b n g) (o : Obj) : MapP (w.alloc o) b n g := h.kept (World.grownBy_alloc w o none) (by simp)
theorem MapP.congr {g' : List UInt8 → Option Value} (h : MapP w b n g) (e : ∀ l, g l = g' l) : MapP w b n g' := by
  have : g = g' := funext e
  rwa [← this]
/-- a look-up: the world stays -/
theorem MapP.look {t e : TypeId} {z : Value} (h : MapP w b n g) (ht : Tryz.prog.underlying t = some (.map 9 e)) (hz : (zeroValue e).run Tryz.prog w = .ok z w) (s : ByteArray) (hs : s.size ≤ maxLen) :
    (Instr.lookup t (.map (some b)) (.string s) false).run Tryz.prog w = .ok ((g s.data.toList).getD z) w := by
  obtain ⟨D, h1, h2, h3, _⟩ := h
  obtain ⟨v, ps, hrun, hv⟩ := h2.lookup (Maps.string_keyed Tryz.underlying9) ht hz (show asHeld z = some (.held z, []) from rfl) (keyOf_string_mk Tryz.underlying9 hs)
  rw [h3] at hv
  simp only [asHeld, Option.some.injEq, Prod.mk.injEq, DataW.held.injEq] at hv
  rw [hrun, hv.1]
end
/-- a store, for the walk -/
theorem wpList_mapP (w : World) {ops : Array Oper} {rest : List Oper} {o : Oper} {a : Act} {Q : Exit → Act → World → Prop} {b n : Nat} {g : List UInt8 → Option Value} (h : MapP w b n g)
    (t e : TypeId) (ht : Tryz.prog.underlying t = some (.map 9 e)) (hg : o.guard = none) (m x v : Operand) (hop : o.op = Op.mapUpdate t m x v) (hm : a.eval m = .map (some b)) (hn : n < maxLen)
    (s : ByteArray) (hs : s.size ≤ maxLen) (u : Value) (hx : a.eval x = .string s) (hv : a.eval v = u)
    (hK : ∀ w', MapP w' b (n + 1) (fun l => if l = s.data.toList then some u else g l) → w.grownBy w' (some b) → wpList Tryz.prog ops Q rest (a.put o.dst undef) w') :
    wpList Tryz.prog ops Q (o :: rest) a w := by
  obtain ⟨D, h1, h2, h3, h3'⟩ := h
  refine wpList_mapUpdate_own w hg m x v t hop 9 e (Maps.string_keyed Tryz.underlying9) ht asHeld b n D hm h2 hn (.string s) u (.string s.data.toList) hx hv
    (keyOf_string_mk Tryz.underlying9 hs) (.held u) [] rfl ?_
  intro w' h4 h5
  refine hK w' ⟨_, ?_, h4, fun z l => ?_, fun l => ?_⟩ h5
  · obtain ⟨es, rfl⟩ := h1; exact ⟨_, rfl⟩
  · by_cases hl : l = s.data.toList
    · subst hl
      rw [Maps.atKey_put_same h1 (by trivial)]; simp
    · rw [Maps.atKey_put_other (by intro e; injection e with e; exact hl e), h3]; simp [hl]
  · by_cases hl : l = s.data.toList
    · subst hl
      rw [Maps.has_put_same h1 (by trivial)]; simp
    · rw [Maps.has_put_other (by intro e; injection e with e; exact hl e), h3']; simp [hl]

/-- a range over the map under way: block r is the iterator; 'left': what is still to come -/
def RangeP (w : World) (b r n : Nat) (g : List UInt8 → Option Value) (left : List UInt8 → Bool) (cnt : Nat) : Prop :=
  ∃ (D : DataW Value) (lf : Lit → Bool), Maps.IsMap D ∧ w.ranges Tryz.prog 9 asHeld b r n D lf cnt ∧ (∀ z l, D.atKey (.string l) (.held z) = .held ((g l).getD z)) ∧ (∀ l, Maps.has D (.string l) = (g l).isSome) ∧ ∀ l, lf (.string l) = left l
section
variable {w w' : World} {b r n cnt : Nat} {g : List UInt8 → Option Value} {left : List UInt8 → Bool}
theorem RangeP.map (h : RangeP w b r n g left cnt) : MapP w b n g := by
  obtain ⟨D, lf, h1, h2, h3, h4, h5⟩ := h
  exact ⟨D, h1, h2.owns, h3, h4⟩
theorem RangeP.lt (h : RangeP w b r n g left cnt) : r < w.heap.size := by
  obtain ⟨D, lf, h1, h2, _⟩ := h
  exact h2.lt
theorem RangeP.left_eq (h : RangeP w b r n g left cnt) : w.rangeLeft b r = cnt := by
  obtain ⟨D, lf, h1, h2, _⟩ := h
  exact h2.left_eq
theorem RangeP.kept {row : Option Nat} (h : RangeP w b r n g left cnt) (hg : w.grownBy w' row) (hb : some b ≠ row) (hr : some r ≠ row) : RangeP w' b r n g left cnt := by
  obtain ⟨D, lf, h1, h2, h3⟩ := h
  exact ⟨D, lf, h1, h2.kept hg hb hr, h3⟩
end
theorem wpList_rangeP (w : World) {ops : Array Oper} {rest : List Oper} {o : Oper} {a : Act} {Q : Exit → Act → World → Prop} {b n : Nat} {g : List UInt8 → Option Value} (h : MapP w b n g)
    (t e : TypeId) (ht : Tryz.prog.underlying t = some (.map 9 e)) (hg : o.guard = none) (m : Operand) (hop : o.op = Op.range t m) (hm : a.eval m = .map (some b))
    (hK : ∀ w' cnt, RangeP w' b w.heap.size n g (fun l => (g l).isSome) cnt → w.grownBy w' none → w'.heap.size = w.heap.size + 1 → wpList Tryz.prog ops Q rest (a.put o.dst (.pointer (some ⟨w.heap.size, 0, none⟩))) w') :
    wpList Tryz.prog ops Q (o :: rest) a w := by
  obtain ⟨D, h1, h2, h3, h4⟩ := h
  exact wpList_range_own w hg m t hop 9 e (Maps.string_keyed Tryz.underlying9) ht asHeld b n D hm h2 fun w' hr hg' hz => hK w' _ ⟨D, _, h1, hr, h3, h4, h4⟩ hg' hz
theorem key_str {key : Value} {kl : Lit} (h : keyOf Tryz.prog 9 key = some kl) : ∃ x : ByteArray, key = .string x ∧ kl = .string x.data.toList ∧ x.size ≤ maxLen := by
  have hk := Tryz.underlying9
  cases key <;> simp [keyOf, hk, mapKey] at h
  rename_i s
  obtain ⟨hl, rfl⟩ := h
  exact ⟨_, rfl, rfl, by first | exact hl | simpa using hl⟩
theorem wpList_nextP (w : World) {ops : Array Oper} {rest : List Oper} {o : Oper} {a : Act} {Q : Exit → Act → World → Prop} {b r n cnt : Nat} {g : List UInt8 → Option Value} {left : List UInt8 → Bool} (h : RangeP w b r n g left cnt)
    (hg : o.guard = none) (it : Operand) (hop : o.op = Op.next it false) (hit : a.eval it = .pointer (some ⟨r, 0, none⟩))
    (hDone : (∀ l, left l = false) → wpList Tryz.prog ops Q rest (a.put o.dst (.tuple #[.bool false])) w)
    (hMore : ∀ (x : ByteArray) (v : Value) (w' : World) (cnt' : Nat), x.size ≤ maxLen → left x.data.toList = true → g x.data.toList = some v → RangeP w' b r n g (fun l => left l && !decide (l = x.data.toList)) cnt' → cnt' < cnt →
      w.grownBy w' (some r) → w'.heap.size = w.heap.size → (Instr.entry (.pointer (some ⟨r, 0, none⟩))).run Tryz.prog w' = .ok (.tuple #[.string x, v]) w' → wpList Tryz.prog ops Q rest (a.put o.dst (.tuple #[.bool true, .string x, v])) w') :
    wpList Tryz.prog ops Q (o :: rest) a w := by
  obtain ⟨D, lf, h1, h2, h3, h4, h5⟩ := h
  refine wpList_next_ranges w hg it hop 9 (Maps.string_keyed Tryz.underlying9) asHeld (Value.string) (fun v : Value => v) (fun key kl hk => by obtain ⟨x, hx, _⟩ := key_str hk; exact ⟨x, hx⟩) (fun v y _ => ⟨v, rfl⟩) b r n D lf cnt hit h2
    (fun _ hl => hDone fun l => by rw [← h5]; exact hl _) ?_
  intro x v kl y w' cnt' hkey hlk hv hat hrg hlt hgr hsz hen
  obtain ⟨x', ex, rfl, hxs⟩ := key_str hkey
  obtain rfl : x = x' := by injection ex
  simp only [asHeld, Option.some.injEq] at hv
  subst hv
  have hgx : g x.data.toList = some v := by
    have e1 := hat (.held (.bool true))
    have e2 := hat (.held (.bool false))
    rw [h3] at e1 e2
    cases hc : g x.data.toList with
    | none =>
      rw [hc] at e1 e2
      simp only [Option.getD_none, DataW.held.injEq] at e1 e2
      rw [← e2] at e1; cases e1
    | some u =>
      rw [hc] at e1
      simp only [Option.getD_some, DataW.held.injEq] at e1
      rw [e1]
  refine hMore x v w' cnt' hxs (by rw [← h5]; exact hlk) hgx ⟨D, _, h1, hrg, h3, h4, fun l => ?_⟩ hlt hgr hsz hen
  have e : (Lit.string l).sameKey (.string x.data.toList) = decide (l = x.data.toList) := by
    rw [Bool.eq_iff_iff, WideAt.sameKey_iff (by trivial), decide_eq_true_eq]
    exact ⟨fun h => Lit.string.inj h, fun h => by rw [h]⟩
  have e2 := h5 l
  show (lf (.string l) && !(Lit.string l).sameKey (.string x.data.toList)) = (left l && !decide (l = x.data.toList))
  rw [e2, e]
end Go.Proofs.YtlifaeleoiodkaaGreatDoor
