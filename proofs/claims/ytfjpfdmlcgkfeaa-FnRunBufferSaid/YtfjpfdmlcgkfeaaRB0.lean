/-
  BUFFERS that run, plain; lists of batches that grow.
-/
import Derived.Test.YtfjpfdmlcgkfeaaS7
import Derived.Test.YtfjpfdmlcgkfeaaKRecss
import Derived.Test.YtfjpfdmlcgkfeaaNE0
namespace Go.Proofs.Ytfjpfdmlcgkfeaa
open Go.RowKit Nm
set_option linter.unusedSimpArgs false
set_option linter.unusedVariables false

def outsR (d : Buf) (r : Rec) : RecssD := if (pushR d r).length = 0 then [] else [pushR d r]
def runBd (d : Buf) (l : List Rec) : Buf := l.foldl pushB d
def runOd : Buf → List Rec → RecssD
  | _, [] => []
  | d, r :: t => outsR d r ++ runOd (pushB d r) t
def rbOk (d : Buf) (l : List Rec) : Bool := bufOk d && recsOk l
def rbB (d : Buf) (l : List Rec) : Buf := if rbOk d l then runBd d l else ⟨0, 0, []⟩
def rbO (d : Buf) (l : List Rec) : RecssD := if rbOk d l then runOd d l else []

theorem atL_eqB (l : List Rec) (a : Int) : atL l a = l.filter fun y => decide (a ≤ y.lv) := by
  unfold atL
  have h : ∀ n, n ≤ l.length → rounds (pickIf l fun _ y => decide (a ≤ y.lv)) n = (l.take n).filter fun y => decide (a ≤ y.lv) := by
    intro n
    induction n with
    | zero => intro _; rfl
    | succ n ih =>
      intro hn
      have hx : l[n]? = some l[n] := List.getElem?_eq_getElem (by omega)
      rw [List.take_add_one, hx, List.filter_append]
      by_cases hp : a ≤ (l[n]).lv
      · rw [rounds_hit (pickIf_hit hx (by simpa using hp)), ih (by omega)]; simp [hp]
      · rw [rounds_miss (pickIf_miss hx (by simpa using hp)), ih (by omega)]; simp [hp]
  rw [h _ (Nat.le_refl _), List.take_length]
theorem recs_atB {l : List Rec} (h : recsOk l = true) {x : Rec} (hx : x ∈ l) : recOk x = true := by
  unfold recsOk at h; simp only [Bool.and_eq_true, List.all_eq_true] at h; exact h.1 x hx
theorem pushB_ok {d : Buf} {r : Rec} (hb : bufOk d = true) (hr : recOk r = true) : bufOk (pushB d r) = true := by
  unfold pushB
  cases hf : pushFull d r with
  | true =>
    simp only [if_true]
    unfold bufOk at hb ⊢
    simp only [Bool.and_eq_true, decide_eq_true_eq] at hb ⊢
    refine ⟨hb.1, hb.2.1, rfl, ?_, rfl⟩
    show ((0 : Nat) : Int) < d.rm
    omega
  | false =>
    simp only [Bool.false_eq_true, if_false]
    unfold bufOk at hb ⊢
    unfold pushFull at hf
    simp only [Bool.and_eq_true, decide_eq_true_eq, Bool.or_eq_false_iff, decide_eq_false_iff_not] at hb hf ⊢
    obtain ⟨h3, h4, h5, h6, h7⟩ := hb
    refine ⟨h3, h4, ?_, ?_, ?_⟩
    · unfold recsOk at h5 ⊢
      simp only [Bool.and_eq_true, List.all_append, List.all_cons, List.all_nil, Bool.and_true, decide_eq_true_eq] at h5 ⊢
      refine ⟨⟨h5.1, hr⟩, ?_⟩
      rw [List.length_append]; show d.rc.length + 1 ≤ _; omega
    · rw [List.length_append]; show ((d.rc.length + 1 : Nat) : Int) < d.rm; omega
    · rw [atL_eqB] at h7 ⊢
      have e : (d.rc.filter fun y => decide (d.lv ≤ y.lv)) = [] := List.eq_nil_of_length_eq_zero (by have := beq_iff_eq.1 h7; omega)
      rw [List.filter_append, e]
      have : ¬ d.lv ≤ r.lv := hf.2
      simp [this]
theorem pushB_rl (d : Buf) (r : Rec) : (pushB d r).rm = d.rm ∧ (pushB d r).lv = d.lv := by unfold pushB; split <;> exact ⟨rfl, rfl⟩
theorem runBd_snoc (d : Buf) (l : List Rec) (x : Rec) : runBd d (l ++ [x]) = pushB (runBd d l) x := by unfold runBd; rw [List.foldl_append]; rfl
theorem runOd_snoc (l : List Rec) (x : Rec) : ∀ d : Buf, runOd d (l ++ [x]) = runOd d l ++ outsR (runBd d l) x := by
  induction l with
  | nil => intro d; show outsR d x ++ [] = [] ++ outsR d x; simp
  | cons y t ih =>
    intro d
    show outsR d y ++ runOd (pushB d y) (t ++ [x]) = (outsR d y ++ runOd (pushB d y) t) ++ outsR (runBd (pushB d y) t) x
    rw [ih, List.append_assoc]
theorem runBd_rl (l : List Rec) : ∀ d : Buf, (runBd d l).rm = d.rm ∧ (runBd d l).lv = d.lv := by
  induction l with
  | nil => intro d; exact ⟨rfl, rfl⟩
  | cons y t ih => intro d; have h1 := ih (pushB d y); have h2 := pushB_rl d y; exact ⟨h1.1.trans h2.1, h1.2.trans h2.2⟩
theorem runBd_ok (l : List Rec) : ∀ d : Buf, bufOk d = true → (∀ x ∈ l, recOk x = true) → bufOk (runBd d l) = true := by
  induction l with
  | nil => intro d h _; exact h
  | cons y t ih => intro d h hl; exact ih (pushB d y) (pushB_ok h (hl y (by simp))) fun x hx => hl x (by simp [hx])
theorem outsR_len (d : Buf) (r : Rec) : (outsR d r).length ≤ 1 := by unfold outsR; split <;> simp
theorem runOd_len (l : List Rec) : ∀ d : Buf, (runOd d l).length ≤ l.length := by
  induction l with
  | nil => intro d; exact Nat.le_refl _
  | cons y t ih =>
    intro d
    show (outsR d y ++ runOd (pushB d y) t).length ≤ t.length + 1
    rw [List.length_append]
    have h1 := outsR_len d y; have h2 := ih (pushB d y); omega
theorem rcsOk_len {l : List Rec} (h : recsOk l = true) : l.length ≤ 12 := by unfold recsOk at h; simp only [Bool.and_eq_true, decide_eq_true_eq] at h; exact h.2
theorem pushR_fit_ {d : Buf} {r : Rec} (h : BufFit d) (hl : d.rc.length ≤ 12) (hx : rcellsFit r) : RecsFit (pushR d r) := by
  unfold pushR
  split
  · exact recsFit_snoc h hl hx
  · exact RecsFit.nil
theorem pushB_fit_ {d : Buf} {r : Rec} (h : BufFit d) (hl : d.rc.length ≤ 12) (hx : rcellsFit r) : BufFit (pushB d r) := by
  unfold pushB
  split
  · exact RecsFit.nil
  · exact recsFit_snoc h hl hx
theorem run_fit (l : List Rec) : ∀ d : Buf, bufOk d = true → BufFit d → (∀ x ∈ l, recOk x = true ∧ rcellsFit x) → BufFit (runBd d l) ∧ ∀ b ∈ runOd d l, RecsFit b := by
  induction l with
  | nil => intro d _ h _; exact ⟨h, by intro b hb; cases hb⟩
  | cons y t ih =>
    intro d h0 h hl
    have hy := hl y (by simp)
    have hd := (bufOk_len h0).1
    have hr := ih (pushB d y) (pushB_ok h0 hy.1) (pushB_fit_ h hd hy.2) fun x hx => hl x (by simp [hx])
    refine ⟨hr.1, fun b hb => ?_⟩
    have hb : b ∈ outsR d y ++ runOd (pushB d y) t := hb
    rcases List.mem_append.1 hb with hb | hb
    · unfold outsR at hb
      split at hb
      · cases hb
      · rw [List.mem_singleton.1 hb]; exact pushR_fit_ h hd hy.2
    · exact hr.2 b hb
theorem rbOk_parts {d : Buf} {l : List Rec} (h : rbOk d l = true) : bufOk d = true ∧ recsOk l = true := by unfold rbOk at h; simpa using h
theorem rbB_fit {d : Buf} {l : List Rec} (h : BufFit d) (h1 : RecsFit l) : BufFit (rbB d l) := by
  unfold rbB
  cases hz : rbOk d l with
  | false => exact RecsFit.nil
  | true =>
    have hp := rbOk_parts hz
    exact (run_fit l d hp.1 h fun x hx => ⟨recs_atB hp.2 hx, h1.2 x hx⟩).1
theorem rbO_fit {d : Buf} {l : List Rec} (h : BufFit d) (h1 : RecsFit l) : RecssFit (rbO d l) := by
  unfold rbO
  cases hz : rbOk d l with
  | false => exact RecssFit.nil
  | true =>
    have hp := rbOk_parts hz
    refine ⟨?_, (run_fit l d hp.1 h fun x hx => ⟨recs_atB hp.2 hx, h1.2 x hx⟩).2⟩
    have h2 := runOd_len l d
    have h3 := rcsOk_len hp.2
    show (runOd d l).length ≤ maxTxt
    unfold maxTxt; omega

def RunPost (w : World) (X0 : Buf) (X1 : RecssD) (ok : Bool) (e : Ending) (w2 : World) : Prop :=
  ∃ (u0 : Value) (rs0 : List Row), ∃ (u1 : Value) (rs1 : List Row), e = .returned (.tuple #[u0, u1, .bool ok]) ∧ BufR rs0 u0 X0 ∧ RecssR rs1 u1 X1 ∧ Rows w2 w.heap.size (rs0 ++ (rs1)) ∧ Below w.heap.size w w2

/-- a batch more, whose rows lie there already -/
theorem batch_app1 {w : World} {lo : Nat} {A : Option Addr} {n c : Nat} {u : Value} {es : List Cell2} {rs rest : List Row} (h : Rows w lo (nestRows 27 (.slice A n c) es ++ (rs ++ rest))) (hn : es.length = n) (hu : u.oneCell' = true) (hlo : lo ≤ w.heap.size) (hm : n ≤ 1048576) (te : TypeId) :
    ∃ A' c' w', (Builtin.append_ #[30, 30] 30 #[.slice A n c, .slice (some ⟨w.heap.size, 0, none⟩) 1 1]).run Try.prog (w.alloc (.cells #[u] te)) = .ok (.slice A' (n + 1) c') w' ∧
      Below lo w w' ∧ Rows w' lo (nestRows 27 (.slice A' (n + 1) c') (es ++ [(u, rs)]) ++ rest) ∧ lo ≤ w'.heap.size := by
  subst hn
  obtain ⟨i0, hi, hz0, hz1, hz2⟩ := info_parts Try.infoRecss
  have htop : w.ownsRow lo 27 1 (.slice A es.length c) es.length (heads es) := h.1 ⟨27, 1, es.length, .slice A es.length c, heads es⟩ (by simp [nestRows])
  obtain ⟨v5, w4, hrun, ho4, hg4, hloc⟩ := run_app1P (P := Try.prog) w 30 lo 27 i0 _ 1 24 Try.underlying30 hi hz0 hz1 hz2 rfl (by decide) _ es.length _ htop [u] te rfl (fun x hx => by rw [List.mem_singleton.1 hx]; exact hu) (by unfold maxLen; omega) (by omega) hlo
  obtain ⟨A5, c5, rfl, _, _⟩ := (Sl.of_own ho4).form
  refine ⟨A5, c5, w4, hrun, (Below.refl lo w).grown hg4 hlo (own_lt htop), ?_, Nat.le_trans hlo hg4.size⟩
  have h1 := Rows.app4 (pre := []) (post := inner es ++ (rs ++ rest)) (r := ⟨27, 1, es.length, .slice A es.length c, heads es⟩) (r' := ⟨27, 1, es.length + 1, .slice A5 (es.length + 1) c5, heads es ++ [u]⟩) (by simpa [nestRows] using h) hg4 ho4 (fun z hz => by
    rcases hloc with e | e
    · left; rw [← e]; exact hz
    · right; have hz' : (Value.slice A5 (es.length + 1) c5).ownBlock = some z := hz; rw [e] at hz'; have : w.heap.size + 1 = z := Option.some.inj hz'; omega)
  have e1 : inner (es ++ [(u, rs)]) = inner es ++ rs := by rw [inner_append]; simp [inner]
  have e2 : heads (es ++ [(u, rs)]) = heads es ++ [u] := by simp [heads]
  unfold nestRows
  rw [e1, e2, List.length_append]
  simpa using h1
end Go.Proofs.Ytfjpfdmlcgkfeaa
