/-
  PLAIN: names of loggers as lists of bytes: words, points, to be below, the common name. No program, no memory.
-/
namespace Go.Proofs.Ytlhelhfaogcibaa.Nm
def low (c : UInt8) : Bool := decide (97 ≤ c.toNat) && decide (c.toNat ≤ 122)
def wordOk (l : List UInt8) : Bool := l.all low && (decide (1 ≤ l.length) && decide (l.length ≤ 4))
def splitDot : List UInt8 → List (List UInt8)
  | [] => [[]]
  | c :: r => if c = 46 then [] :: splitDot r else match splitDot r with
    | [] => [[c]]
    | w :: ws => (c :: w) :: ws
def partsL (l : List UInt8) : List (List UInt8) := if l = [] then [] else splitDot l
def nameOk (l : List UInt8) : Bool := (partsL l).all wordOk && decide ((partsL l).length ≤ 4)
def joinL : List (List UInt8) → List UInt8
  | [] => []
  | [w] => w
  | w :: x :: r => w ++ 46 :: joinL (x :: r)
def belowL (a b : List UInt8) : Bool := decide (b = []) || (decide (a = b) || decide ((b ++ [46]) <+: a))

theorem splitDot_ne (l : List UInt8) : splitDot l ≠ [] := by
  cases l with
  | nil => simp [splitDot]
  | cons c r => simp only [splitDot]; split
                · simp
                · split <;> simp

theorem splitDot_dot (r : List UInt8) : splitDot (46 :: r) = [] :: splitDot r := by simp [splitDot]

/-- a stretch without a point, then a point -/
theorem splitDot_app (w r : List UInt8) (h : ∀ c ∈ w, c ≠ 46) : splitDot (w ++ 46 :: r) = w :: splitDot r := by
  induction w with
  | nil => simp [splitDot]
  | cons c w ih =>
    have hc : c ≠ 46 := h c (by simp)
    have := ih (fun x hx => h x (by simp [hx]))
    simp [splitDot, hc, this]
theorem splitDot_one (w : List UInt8) (h : ∀ c ∈ w, c ≠ 46) : splitDot w = [w] := by
  induction w with
  | nil => simp [splitDot]
  | cons c w ih =>
    have hc : c ≠ 46 := h c (by simp)
    have := ih (fun x hx => h x (by simp [hx]))
    simp [splitDot, hc, this]

theorem splitDot_nodot (l : List UInt8) : ∀ w ∈ splitDot l, ∀ c ∈ w, c ≠ 46 := by
  induction l with
  | nil => simp [splitDot]
  | cons c r ih =>
    simp only [splitDot]
    split
    · intro w hw
      simp only [List.mem_cons] at hw
      rcases hw with rfl | hw
      · simp
      · exact ih w hw
    · rename_i hc
      split
      · rename_i h; exact absurd h (splitDot_ne r)
      · rename_i w ws h
        rw [h] at ih
        intro x hx
        simp only [List.mem_cons] at hx
        rcases hx with rfl | hx
        · intro d hd
          simp only [List.mem_cons] at hd
          rcases hd with rfl | hd
          · exact hc
          · exact ih w (by simp) d hd
        · exact ih x (by simp [hx])

theorem joinL_cons (w : List UInt8) (r : List (List UInt8)) (h : r ≠ []) : joinL (w :: r) = w ++ 46 :: joinL r := by
  cases r with
  | nil => exact absurd rfl h
  | cons x r => rfl

theorem join_split (l : List UInt8) : joinL (splitDot l) = l := by
  induction l with
  | nil => simp [splitDot, joinL]
  | cons c r ih =>
    simp only [splitDot]
    split
    · rename_i hc
      rw [joinL_cons _ _ (splitDot_ne r), ih, hc]; rfl
    · split
      · rename_i h; exact absurd h (splitDot_ne r)
      · rename_i w ws h
        rw [h] at ih
        cases ws with
        | nil => simp only [joinL] at ih ⊢; rw [ih]
        | cons x xs => rw [joinL_cons _ _ (by simp)] at ih ⊢; rw [← ih]; rfl

theorem split_join (ws : List (List UInt8)) (hne : ws ≠ []) (h : ∀ w ∈ ws, ∀ c ∈ w, c ≠ 46) : splitDot (joinL ws) = ws := by
  induction ws with
  | nil => exact absurd rfl hne
  | cons w r ih =>
    cases r with
    | nil => exact splitDot_one w (h w (by simp))
    | cons x r =>
      rw [joinL_cons _ _ (by simp), splitDot_app _ _ (h w (by simp)), ih (by simp) (fun v hv => h v (by simp [hv]))]

theorem join_parts (l : List UInt8) : joinL (partsL l) = l := by
  unfold partsL
  split
  · rename_i h; subst h; rfl
  · exact join_split l

theorem low_ne (c : UInt8) (h : low c = true) : c ≠ 46 := by
  rintro rfl; simp [low] at h

theorem wordOk_nodot (w : List UInt8) (h : wordOk w = true) : ∀ c ∈ w, c ≠ 46 := by
  simp only [wordOk, Bool.and_eq_true, List.all_eq_true] at h
  exact fun c hc => low_ne c (h.1 c hc)

/-- the length of the word ahead of the first point, 0 if there is none -/
def wlen (l : List UInt8) : Nat := if wordOk (l.takeWhile (· != 46)) then (l.takeWhile (· != 46)).length else 0

theorem splitDot_head (l : List UInt8) : ∃ ws, splitDot l = l.takeWhile (· != 46) :: ws := by
  induction l with
  | nil => exact ⟨[], rfl⟩
  | cons c r ih =>
    obtain ⟨ws, h⟩ := ih
    by_cases hc : c = 46
    · subst hc; exact ⟨splitDot r, by simp [splitDot]⟩
    · exact ⟨ws, by simp [splitDot, hc, h]⟩

theorem wlen_zero (l : List UInt8) (h : wlen l = 0) : (splitDot l).all wordOk = false := by
  obtain ⟨ws, e⟩ := splitDot_head l
  rw [e]
  unfold wlen at h
  split at h
  · rename_i hw
    simp only [wordOk, Bool.and_eq_true, decide_eq_true_eq] at hw
    omega
  · rename_i hw
    simp at hw
    simp [hw]

theorem takeWhile_spec (l : List UInt8) : (l.takeWhile (· != 46) = l) ∨ ∃ r, l = l.takeWhile (· != 46) ++ 46 :: r := by
  induction l with
  | nil => simp
  | cons c r ih =>
    by_cases hc : c = 46
    · subst hc; exact .inr ⟨r, by simp⟩
    · rcases ih with h | ⟨x, h⟩
      · left; simp [hc, h]
      · right; exact ⟨x, by simp [hc]; exact h⟩

theorem wlen_pos (l : List UInt8) (h : wlen l ≠ 0) : 1 ≤ wlen l ∧ wlen l ≤ 4 ∧ wlen l ≤ l.length ∧ wordOk (l.take (wlen l)) = true ∧
    ((wlen l = l.length ∧ splitDot l = [l.take (wlen l)]) ∨ (wlen l < l.length ∧ splitDot l = l.take (wlen l) :: splitDot (l.drop (wlen l + 1)))) := by
  unfold wlen at h ⊢
  split
  · rename_i hw
    have hw2 := hw
    simp only [wordOk, Bool.and_eq_true, decide_eq_true_eq] at hw2
    obtain ⟨_, h1, h4⟩ := hw2
    have hnd := wordOk_nodot _ hw
    rcases takeWhile_spec l with e | ⟨r, e⟩
    · rw [e] at hw h1 h4 hnd ⊢
      refine ⟨h1, h4, Nat.le_refl _, by simpa using hw, .inl ⟨rfl, ?_⟩⟩
      rw [splitDot_one l hnd]; simp
    · generalize ht : l.takeWhile (· != 46) = t at *
      subst e
      refine ⟨h1, h4, by simp, by simpa using hw, .inr ⟨by simp, ?_⟩⟩
      rw [splitDot_app _ _ hnd]
      have e1 : List.drop (t.length + 1) (t ++ 46 :: r) = r := by
        rw [show t ++ 46 :: r = (t ++ [46]) ++ r from by simp, show t.length + 1 = (t ++ [46]).length from by simp, List.drop_left]
      simp [e1]
  · rename_i hw; simp [hw] at h


/-- names: words with points -/
theorem nameOk_join (ws : List (List UInt8)) (h : ∀ w ∈ ws, wordOk w = true) (hl : ws.length ≤ 4) : nameOk (joinL ws) = true ∧ partsL (joinL ws) = ws := by
  have hp : partsL (joinL ws) = ws := by
    cases ws with
    | nil => rfl
    | cons w r =>
      unfold partsL
      have hne : joinL (w :: r) ≠ [] := by
        have hw := h w (by simp)
        simp only [wordOk, Bool.and_eq_true, decide_eq_true_eq] at hw
        cases r with
        | nil => simp only [joinL]; intro e; rw [e] at hw; simp at hw
        | cons x r => rw [joinL_cons _ _ (by simp)]; simp
      rw [if_neg hne]
      exact split_join _ (by simp) (fun w hw => wordOk_nodot w (h w hw))
  refine ⟨?_, hp⟩
  unfold nameOk
  rw [hp]
  simp only [Bool.and_eq_true, List.all_eq_true, decide_eq_true_eq]
  exact ⟨h, hl⟩

theorem nameOk_iff (l : List UInt8) : nameOk l = true ↔ (∀ w ∈ partsL l, wordOk w = true) ∧ (partsL l).length ≤ 4 := by
  unfold nameOk; simp only [Bool.and_eq_true, List.all_eq_true, decide_eq_true_eq]

theorem joinL_app (a b : List (List UInt8)) (ha : a ≠ []) (hb : b ≠ []) : joinL (a ++ b) = joinL a ++ 46 :: joinL b := by
  induction a with
  | nil => exact absurd rfl ha
  | cons w r ih =>
    cases r with
    | nil => simp [joinL_cons _ _ hb, joinL]
    | cons x r =>
      rw [List.cons_append, joinL_cons w (x :: r ++ b) (by simp), ih (by simp), joinL_cons w (x :: r) (by simp)]
      simp

theorem partsL_nil_iff (l : List UInt8) : partsL l = [] ↔ l = [] := by
  unfold partsL
  split
  · simp_all
  · rename_i h; simp [h, splitDot_ne]

theorem splitDot_pref (b r : List UInt8) : splitDot (b ++ 46 :: r) = splitDot b ++ splitDot r := by
  induction b with
  | nil => simp [splitDot]
  | cons c b ih =>
    rw [List.cons_append]
    simp only [splitDot]
    split
    · rw [ih]; rfl
    · rw [ih]
      cases hb : splitDot b with
      | nil => exact absurd hb (splitDot_ne b)
      | cons w ws => rfl

/-- to be below is to begin with the same words -/
theorem belowL_iff (a b : List UInt8) : belowL a b = true ↔ partsL b <+: partsL a := by
  unfold belowL
  simp only [Bool.or_eq_true, decide_eq_true_eq]
  constructor
  · rintro (rfl | rfl | ⟨r, h⟩)
    · simp [partsL]
    · exact List.prefix_refl _
    · have e : a = b ++ 46 :: r := by rw [← h]; simp
      subst e
      unfold partsL
      by_cases hb : b = []
      · simp [hb]
      · rw [if_neg hb, if_neg (by simp), splitDot_pref]
        exact List.prefix_append _ _
  · rintro ⟨r, h⟩
    by_cases hb : b = []
    · exact .inl hb
    · right
      have hbp : partsL b ≠ [] := fun e => hb ((partsL_nil_iff b).1 e)
      by_cases hr : r = []
      · left
        rw [← join_parts a, ← h, hr, List.append_nil, join_parts]
      · right
        rw [← join_parts a, ← h, joinL_app _ _ hbp hr, join_parts]
        exact ⟨joinL r, by simp⟩


def cpre : List (List UInt8) → List (List UInt8) → List (List UInt8)
  | x :: xs, y :: ys => if x = y then x :: cpre xs ys else []
  | _, _ => []
def commonL (a b : List UInt8) : List UInt8 := joinL (cpre (partsL a) (partsL b))

theorem cpre_left (x y : List (List UInt8)) : cpre x y <+: x := by
  induction x generalizing y with
  | nil => simp [cpre]
  | cons a x ih =>
    cases y with
    | nil => simp [cpre]
    | cons b y =>
      simp only [cpre]; split
      · exact List.cons_prefix_cons.2 ⟨rfl, ih y⟩
      · simp
theorem cpre_comm (x y : List (List UInt8)) : cpre x y = cpre y x := by
  induction x generalizing y with
  | nil => cases y <;> simp [cpre]
  | cons a x ih =>
    cases y with
    | nil => simp [cpre]
    | cons b y =>
      simp only [cpre]
      by_cases h : a = b
      · subst h; simp [ih y]
      · simp [h, Ne.symm h]
theorem cpre_right (x y : List (List UInt8)) : cpre x y <+: y := by rw [cpre_comm]; exact cpre_left y x
theorem cpre_max (z x y : List (List UInt8)) (hx : z <+: x) (hy : z <+: y) : z <+: cpre x y := by
  induction z generalizing x y with
  | nil => simp
  | cons c z ih =>
    obtain ⟨r, rfl⟩ := hx
    obtain ⟨s, rfl⟩ := hy
    simp only [List.cons_append, cpre, if_true]
    exact List.cons_prefix_cons.2 ⟨rfl, ih _ _ (List.prefix_append _ _) (List.prefix_append _ _)⟩
theorem cpre_eq_right (x y : List (List UInt8)) : cpre x y = y ↔ y <+: x := by
  constructor
  · intro h; have := cpre_left x y; rwa [h] at this
  · intro h
    exact (List.IsPrefix.eq_of_length_le (cpre_right x y) (List.IsPrefix.length_le (cpre_max y x y h (List.prefix_refl _))))

theorem words_prefix {z : List (List UInt8)} {l : List UInt8} (h : nameOk l = true) (hz : z <+: partsL l) : (∀ w ∈ z, wordOk w = true) ∧ z.length ≤ 4 := by
  obtain ⟨h1, h2⟩ := (nameOk_iff l).1 h
  exact ⟨fun w hw => h1 w (hz.subset hw), Nat.le_trans hz.length_le h2⟩

theorem common_ok (a b : List UInt8) (ha : nameOk a = true) : nameOk (commonL a b) = true ∧ partsL (commonL a b) = cpre (partsL a) (partsL b) := by
  obtain ⟨h1, h2⟩ := words_prefix ha (cpre_left (partsL a) (partsL b))
  exact nameOk_join _ h1 h2

/-- without its last word -/
def aboveL (l : List UInt8) : List UInt8 := joinL (partsL l).dropLast
theorem above_take (b : List UInt8) (k : Nat) (hb : nameOk b = true) (hk : k + 1 ≤ (partsL b).length) :
    aboveL (joinL ((partsL b).take (k + 1))) = joinL ((partsL b).take k) := by
  obtain ⟨h1, h2⟩ := words_prefix hb (List.take_prefix (k + 1) (partsL b))
  unfold aboveL
  rw [(nameOk_join _ h1 h2).2]
  congr 1
  rw [List.dropLast_eq_take, List.length_take, List.take_take]
  congr 1
  omega
theorem partsL_inj {a b : List UInt8} (h : partsL a = partsL b) : a = b := by rw [← join_parts a, h, join_parts]
theorem common_stop (a b : List UInt8) (k : Nat) (hb : nameOk b = true) (hk : k ≤ (partsL b).length) (hc : (cpre (partsL a) (partsL b)).length ≤ k)
    (h : belowL a (joinL ((partsL b).take k)) = true) : joinL ((partsL b).take k) = commonL a b := by
  obtain ⟨h1, h2⟩ := words_prefix hb (List.take_prefix k (partsL b))
  rw [belowL_iff, (nameOk_join _ h1 h2).2] at h
  have h3 := cpre_max _ _ _ h (List.take_prefix k (partsL b))
  unfold commonL
  congr 1
  refine List.IsPrefix.eq_of_length_le h3 ?_
  rw [List.length_take]; omega
theorem common_go (a b : List UInt8) (k : Nat) (hb : nameOk b = true) (hc : (cpre (partsL a) (partsL b)).length ≤ k)
    (h : belowL a (joinL ((partsL b).take k)) = false) : (cpre (partsL a) (partsL b)).length + 1 ≤ k := by
  rcases Nat.lt_or_ge (cpre (partsL a) (partsL b)).length k with h0 | h0
  · omega
  · exfalso
    have hl : k = (cpre (partsL a) (partsL b)).length := by omega
    have e : (partsL b).take k = cpre (partsL a) (partsL b) := by
      have := List.prefix_iff_eq_take.1 (cpre_right (partsL a) (partsL b))
      rw [hl]; exact this.symm
    obtain ⟨h1, h2⟩ := words_prefix hb (List.take_prefix k (partsL b))
    have : belowL a (joinL ((partsL b).take k)) = true := by
      rw [belowL_iff, (nameOk_join _ h1 h2).2, e]; exact cpre_left _ _
    rw [this] at h; cases h
theorem tw_split (l : List UInt8) (p : Nat) (h : (l.take p).all low = true) : l.takeWhile (· != 46) = l.take p ++ (l.drop p).takeWhile (· != 46) := by
  conv => lhs; rw [← List.take_append_drop p l]
  rw [List.takeWhile_append_of_pos]
  intro c hc
  have := low_ne c (List.all_eq_true.1 h c hc)
  simpa using this
theorem drop_cons (l : List UInt8) (p : Nat) (c : UInt8) (h : l[p]? = some c) : l.drop p = c :: l.drop (p + 1) := by
  obtain ⟨hl, rfl⟩ := List.getElem?_eq_some_iff.1 h
  exact List.drop_eq_getElem_cons hl
theorem wordOk_low (l : List UInt8) (h : l.all low = true) (h4 : l.length ≤ 4) : (if wordOk l then l.length else 0) = l.length := by
  unfold wordOk
  rw [h]
  by_cases h1 : 1 ≤ l.length
  · simp [h1, h4]
  · have : l.length = 0 := by omega
    simp [this]
theorem wlen_stop (l : List UInt8) (p : Nat) (h : (l.take p).all low = true) (h4 : p ≤ 4) (hc : l[p]? = some 46) : wlen l = p := by
  have hl : p < l.length := (List.getElem?_eq_some_iff.1 hc).1
  have e : l.takeWhile (· != 46) = l.take p := by
    rw [tw_split l p h, drop_cons l p 46 hc]; simp
  unfold wlen
  rw [e, wordOk_low _ h (by simp; omega)]
  simp; omega
theorem wlen_end (l : List UInt8) (h : l.all low = true) (h4 : l.length ≤ 4) : wlen l = l.length := by
  have e : l.takeWhile (· != 46) = l := by
    have := tw_split l l.length (by simpa using h)
    simpa using this
  unfold wlen
  rw [e, wordOk_low _ h h4]
theorem wlen_bad (l : List UInt8) (p : Nat) (c : UInt8) (h : (l.take p).all low = true) (hc : l[p]? = some c) (hd : c ≠ 46) (hb : low c = false ∨ 4 ≤ p) : wlen l = 0 := by
  have hl : p < l.length := (List.getElem?_eq_some_iff.1 hc).1
  unfold wlen
  rw [if_neg]
  rw [tw_split l p h, drop_cons l p c hc]
  have hd' : (c != 46) = true := by simpa using hd
  rw [List.takeWhile_cons, if_pos hd']
  intro hw
  simp only [wordOk, Bool.and_eq_true, decide_eq_true_eq, List.all_append, List.all_cons, List.length_append, List.length_take, List.length_cons] at hw
  rcases hb with hb | hb
  · rw [hb] at hw; simp at hw
  · omega
theorem take_low (l : List UInt8) (p : Nat) (c : UInt8) (h : (l.take p).all low = true) (hc : l[p]? = some c) (hl : low c = true) : (l.take (p + 1)).all low = true := by
  rw [List.take_add_one, hc]
  simp [List.all_append, h, hl]
theorem low_iff (c : UInt8) : low c = true ↔ 97 ≤ c.toNat ∧ c.toNat ≤ 122 := by simp [low]
theorem low_false (c : UInt8) (h : c.toNat < 97 ∨ 122 < c.toNat) : low c = false := by
  cases hc : low c with
  | false => rfl
  | true => have := (low_iff c).1 hc; omega
structure WInv (l : List UInt8) (ws : List (List UInt8)) (r : List UInt8) : Prop where
  ne : l ≠ []
  sp : splitDot l = ws ++ splitDot r
  ok : ∀ w ∈ ws, wordOk w = true
  le : ws.length ≤ 4
theorem WInv.start {l : List UInt8} (h : l ≠ []) : WInv l [] l := ⟨h, rfl, by simp, by simp⟩
theorem WInv.parts {l ws r} (h : WInv l ws r) : partsL l = ws ++ splitDot r := by unfold partsL; rw [if_neg h.ne, h.sp]
theorem WInv.bad {l ws r} (h : WInv l ws r) (h0 : wlen r = 0) : nameOk l = false := by
  unfold nameOk
  rw [h.parts, List.all_append, wlen_zero r h0]
  simp
theorem WInv.full {l ws r} (h : WInv l ws r) (h0 : ws.length = 4) : nameOk l = false := by
  unfold nameOk
  rw [h.parts, List.length_append, h0]
  have := List.length_pos_iff.2 (splitDot_ne r)
  have e : decide (4 + (splitDot r).length ≤ 4) = false := by simp; omega
  rw [e]; simp
theorem WInv.done {l ws r} (h : WInv l ws r) (h0 : wlen r ≠ 0) (h1 : wlen r = r.length) (h4 : ws.length < 4) : nameOk l = true ∧ partsL l = ws ++ [r.take (wlen r)] := by
  obtain ⟨_, _, _, hw, hs⟩ := wlen_pos r h0
  rcases hs with ⟨_, hs⟩ | ⟨hs, _⟩
  · have e := h.parts
    rw [hs] at e
    refine ⟨(nameOk_iff l).2 ?_, e⟩
    rw [e]
    refine ⟨?_, by simp; omega⟩
    intro w hm
    rcases List.mem_append.1 hm with hm | hm
    · exact h.ok w hm
    · simp at hm; subst hm; exact hw
  · omega
theorem WInv.next {l ws r} (h : WInv l ws r) (h0 : wlen r ≠ 0) (h1 : wlen r ≠ r.length) (h4 : ws.length < 4) :
    wlen r < r.length ∧ WInv l (ws ++ [r.take (wlen r)]) (r.drop (wlen r + 1)) := by
  obtain ⟨_, _, _, hw, hs⟩ := wlen_pos r h0
  rcases hs with ⟨hs, _⟩ | ⟨hl, hs⟩
  · omega
  · refine ⟨hl, h.ne, ?_, ?_, by simp; omega⟩
    · rw [h.sp, hs]; simp
    · intro w hm
      rcases List.mem_append.1 hm with hm | hm
      · exact h.ok w hm
      · simp at hm; subst hm; exact hw
def splitB (s : UInt8) : List UInt8 → List (List UInt8)
  | [] => [[]]
  | c :: r => if c = s then [] :: splitB s r else match splitB s r with
    | [] => [[c]]
    | w :: ws => (c :: w) :: ws
theorem splitB_dot (l : List UInt8) : splitB 46 l = splitDot l := by
  induction l with
  | nil => rfl
  | cons c r ih =>
    simp only [splitB, splitDot, ih]
    try (cases splitDot r <;> rfl)
theorem splitB_app (s : UInt8) (w r : List UInt8) (h : ∀ c ∈ w, c ≠ s) : splitB s (w ++ s :: r) = w :: splitB s r := by
  induction w with
  | nil => simp [splitB]
  | cons c w ih =>
    have hc : c ≠ s := h c (by simp)
    have := ih (fun x hx => h x (by simp [hx]))
    simp [splitB, hc, this]
theorem splitB_one (s : UInt8) (w : List UInt8) (h : ∀ c ∈ w, c ≠ s) : splitB s w = [w] := by
  induction w with
  | nil => simp [splitB]
  | cons c w ih =>
    have hc : c ≠ s := h c (by simp)
    have := ih (fun x hx => h x (by simp [hx]))
    simp [splitB, hc, this]
/-- the loop of splitAt: parts so far, where the next one begins, how far it has looked -/
structure SInv (s : UInt8) (l : List UInt8) (out : List (List UInt8)) (f i : Nat) : Prop where
  le : f ≤ i
  il : i ≤ l.length
  sp : splitB s l = out ++ splitB s (l.drop f)
  no : ∀ c ∈ (l.drop f).take (i - f), c ≠ s
  ln : out.length ≤ f
theorem SInv.start (s : UInt8) (l : List UInt8) : SInv s l [] 0 0 := ⟨Nat.le_refl _, Nat.zero_le _, by simp, by simp, by simp⟩
theorem SInv.hit {s l out f i} (h : SInv s l out f i) (hc : l[i]? = some s) : SInv s l (out ++ [(l.drop f).take (i - f)]) (i + 1) (i + 1) := by
  have hi : i < l.length := (List.getElem?_eq_some_iff.1 hc).1
  refine ⟨Nat.le_refl _, hi, ?_, by simp, by simp; have := h.ln; have := h.le; omega⟩
  have e : l.drop f = (l.drop f).take (i - f) ++ s :: l.drop (i + 1) := by
    have hle := h.le
    have : (l.drop f).drop (i - f) = s :: l.drop (i + 1) := by
      rw [List.drop_drop, show f + (i - f) = i from by omega]
      exact drop_cons l i s hc
    rw [← this, List.take_append_drop]
  rw [h.sp]
  conv => lhs; rw [e]
  rw [splitB_app s _ _ h.no]
  simp
theorem SInv.miss {s l out f i} {c : UInt8} (h : SInv s l out f i) (hc : l[i]? = some c) (hne : c ≠ s) : SInv s l out f (i + 1) := by
  have hi : i < l.length := (List.getElem?_eq_some_iff.1 hc).1
  have hle := h.le
  refine ⟨by omega, hi, h.sp, ?_, h.ln⟩
  intro d hd
  rw [show i + 1 - f = (i - f) + 1 from by omega, List.take_add_one] at hd
  rcases List.mem_append.1 hd with hd | hd
  · exact h.no d hd
  · rw [List.getElem?_drop, show f + (i - f) = i from by omega, hc] at hd
    simp at hd
    subst hd; exact hne
theorem SInv.done {s l out f} (h : SInv s l out f l.length) : splitB s l = out ++ [l.drop f] := by
  rw [h.sp]
  congr 1
  apply splitB_one
  intro c hc
  refine h.no c ?_
  rw [List.take_of_length_le (by simp)]
  exact hc
theorem take_at (l : List UInt8) (i : Nat) (c : UInt8) (h : l[i]? = some c) : l = l.take i ++ c :: l.drop (i + 1) := by
  rw [← drop_cons l i c h, List.take_append_drop]
theorem above_at (l : List UInt8) (i : Nat) (h : l[i]? = some 46) (hn : ∀ c ∈ l.drop (i + 1), c ≠ 46) : l.take i = aboveL l := by
  have hne : l ≠ [] := by rintro rfl; simp at h
  have e : splitDot l = splitDot (l.take i) ++ [l.drop (i + 1)] := by
    conv => lhs; rw [take_at l i 46 h]
    rw [splitDot_pref, splitDot_one _ hn]
  unfold aboveL partsL
  rw [if_neg hne, e, List.dropLast_concat, join_split]
theorem above_none (l : List UInt8) (hn : ∀ c ∈ l, c ≠ 46) : aboveL l = [] := by
  unfold aboveL partsL
  split
  · rfl
  · rw [splitDot_one _ hn]; rfl
theorem pre_iff (p s : List UInt8) : p <+: s ↔ p.length ≤ s.length ∧ s.take p.length = p := by
  constructor
  · intro h; exact ⟨h.length_le, (List.prefix_iff_eq_take.1 h).symm⟩
  · rintro ⟨_, h⟩; rw [← h]; exact List.take_prefix _ _
theorem predot_iff (b a : List UInt8) : (b ++ [46]) <+: a ↔ b.length < a.length ∧ a.take b.length = b ∧ a[b.length]? = some 46 := by
  constructor
  · rintro ⟨r, rfl⟩; simp
  · rintro ⟨_, h, hc⟩
    refine ⟨a.drop (b.length + 1), ?_⟩
    conv => rhs; rw [take_at a b.length 46 hc, h]
    simp
theorem cpre_take (x y : List (List UInt8)) (n : Nat) (hx : n ≤ x.length) (hy : n ≤ y.length) (he : x.take n = y.take n)
    (hs : n = x.length ∨ n = y.length ∨ x[n]? ≠ y[n]?) : cpre x y = x.take n := by
  induction n generalizing x y with
  | zero =>
    cases x with
    | nil => simp [cpre]
    | cons a x =>
      cases y with
      | nil => simp [cpre]
      | cons b y =>
        have : a ≠ b := by rintro rfl; simp at hs
        simp [cpre, this]
  | succ n ih =>
    cases x with
    | nil => simp at hx
    | cons a x =>
      cases y with
      | nil => simp at hy
      | cons b y =>
        simp only [List.take_succ_cons, List.cons.injEq] at he
        obtain ⟨rfl, he⟩ := he
        simp only [cpre, if_true, List.take_succ_cons]
        congr 1
        refine ih x y (by simpa using hx) (by simpa using hy) he ?_
        simpa using hs
theorem take_eq_succ (x y : List (List UInt8)) (n : Nat) (he : x.take n = y.take n) (h : x[n]? = y[n]?) : x.take (n + 1) = y.take (n + 1) := by
  rw [List.take_add_one, List.take_add_one, he, h]
theorem joinL_snoc (a : List (List UInt8)) (w : List UInt8) : joinL (a ++ [w]) = if a = [] then w else joinL a ++ 46 :: w := by
  split
  · rename_i h; subst h; rfl
  · rename_i h; rw [joinL_app a [w] h (by simp)]; rfl
def joinS (s : List UInt8) : List (List UInt8) → List UInt8
  | [] => []
  | [w] => w
  | w :: x :: r => w ++ (s ++ joinS s (x :: r))
theorem joinS_cons (s w : List UInt8) (r : List (List UInt8)) (h : r ≠ []) : joinS s (w :: r) = w ++ (s ++ joinS s r) := by
  cases r with
  | nil => exact absurd rfl h
  | cons x r => rfl
theorem joinS_dot (l : List (List UInt8)) : joinS [46] l = joinL l := by
  induction l with
  | nil => rfl
  | cons w r ih =>
    cases r with
    | nil => rfl
    | cons x r =>
      rw [joinS_cons _ w (x :: r) (by simp), ih, joinL_cons w (x :: r) (by simp)]
      simp only [List.cons_append, List.nil_append]
theorem joinS_snoc (s : List UInt8) (a : List (List UInt8)) (w : List UInt8) : joinS s (a ++ [w]) = if a = [] then w else joinS s a ++ (s ++ w) := by
  induction a with
  | nil => rfl
  | cons x a ih =>
    rw [List.cons_append, joinS_cons _ _ _ (by simp), ih]
    by_cases ha : a = []
    · subst ha; simp [joinS]
    · rw [if_neg ha, if_neg (by simp), joinS_cons _ _ _ ha]; simp [List.append_assoc]
/-- the lengths of all texts together -/
def total (l : List (List UInt8)) : Nat := (l.map List.length).sum
theorem joinS_len (s : List UInt8) (l : List (List UInt8)) : (joinS s l).length ≤ total l + s.length * l.length := by
  induction l with
  | nil => simp [joinS]
  | cons w r ih =>
    by_cases hr : r = []
    · subst hr; simp [joinS, total]
    · rw [joinS_cons _ _ _ hr]
      simp only [List.length_append, List.length_cons, total, List.map_cons, List.sum_cons, Nat.mul_add, Nat.mul_one] at ih ⊢
      omega
theorem total_take (l : List (List UInt8)) (k : Nat) : total (l.take k) ≤ total l := by
  induction l generalizing k with
  | nil => simp
  | cons w r ih =>
    cases k with
    | zero => simp [total]
    | succ k => have := ih k; simp only [total, List.take_succ_cons, List.map_cons, List.sum_cons] at this ⊢; omega
theorem total_split (s : UInt8) (l : List UInt8) : total (splitB s l) + (splitB s l).length = l.length + 1 := by
  induction l with
  | nil => simp [splitB, total]
  | cons c r ih =>
    simp only [splitB]
    split
    · simp only [total, List.map_cons, List.sum_cons, List.length_nil, List.length_cons] at ih ⊢; omega
    · cases h : splitB s r with
      | nil => rw [h] at ih; simp [total] at ih
      | cons w ws => rw [h] at ih; simp only [total, List.map_cons, List.sum_cons, List.length_cons] at ih ⊢; omega
theorem total_parts (l : List UInt8) : total (partsL l) + (partsL l).length ≤ l.length + 1 := by
  unfold partsL
  split
  · simp [total]
  · rw [← splitB_dot, total_split]; exact Nat.le_refl _
end Go.Proofs.Ytlhelhfaogcibaa.Nm
