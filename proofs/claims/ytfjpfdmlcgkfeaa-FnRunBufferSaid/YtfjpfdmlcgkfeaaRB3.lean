/-
  DRAWS: a buffer and records; equal batches; what running loses not, plain. By gen_drb.py.
-/
import Derived.Test.YtfjpfdmlcgkfeaaD8
import Derived.Test.YtfjpfdmlcgkfeaaRB2
namespace Go.Proofs.Ytfjpfdmlcgkfeaa
open Go.RowKit Nm
set_option linter.unusedSimpArgs false
set_option linter.unusedVariables false

theorem runOd_batch (l : List Rec) : ∀ d : Buf, bufOk d = true → (∀ x ∈ l, recOk x = true) → ∀ b ∈ runOd d l, 0 < b.length ∧ (b.length : Int) ≤ d.rm ∧ ((b.length : Int) < d.rm → ∃ x, b[b.length - 1]? = some x ∧ d.lv ≤ x.lv) := by
  induction l with
  | nil => intro d _ _ b hb; cases hb
  | cons y t ih =>
    intro d hd hl b hb
    have hb : b ∈ outsR d y ++ runOd (pushB d y) t := hb
    rcases List.mem_append.1 hb with hb | hb
    · unfold outsR at hb
      split at hb
      · cases hb
      · rename_i h0
        have hb := List.mem_singleton.1 hb
        subst hb
        unfold pushR at h0 ⊢
        cases hf : pushFull d y with
        | false => rw [hf] at h0; exact absurd rfl h0
        | true =>
          simp only [if_true]
          have hlen : (d.rc ++ [y]).length = d.rc.length + 1 := by simp
          have h1 := (bufOk_len hd).2
          refine ⟨by omega, by omega, fun hlt => ⟨y, ?_, ?_⟩⟩
          · rw [hlen, Nat.add_sub_cancel, List.getElem?_append_right (Nat.le_refl _), Nat.sub_self]; rfl
          · unfold pushFull at hf
            simp only [Bool.or_eq_true, decide_eq_true_eq] at hf
            rcases hf with hf | hf
            · omega
            · exact hf
    · have h2 := pushB_rl d y
      have h3 := ih (pushB d y) (pushB_ok hd (hl y (by simp))) (fun x hx => hl x (by simp [hx])) b hb
      rw [h2.1, h2.2] at h3
      exact h3
theorem runOd_all (l : List Rec) : ∀ d : Buf, (runOd d l).flatten ++ (runBd d l).rc = d.rc ++ l := by
  induction l with
  | nil => intro d; simp [runOd, runBd]
  | cons y t ih =>
    intro d
    show (outsR d y ++ runOd (pushB d y) t).flatten ++ (runBd (pushB d y) t).rc = _
    rw [List.flatten_append, List.append_assoc, ih (pushB d y)]
    unfold outsR pushR pushB
    cases pushFull d y <;> simp
theorem rb_facts {d : Buf} {l : List Rec} (h : rbOk d l = true) : bufOk (rbB d l) = true ∧ (rbO d l).flatten ++ (rbB d l).rc = d.rc ++ l ∧ ∀ b ∈ rbO d l, 0 < b.length ∧ (b.length : Int) ≤ d.rm ∧ ((b.length : Int) < d.rm → ∃ x, b[b.length - 1]? = some x ∧ d.lv ≤ x.lv) := by
  have hp := rbOk_parts h
  unfold rbB rbO
  rw [if_pos h, if_pos h]
  exact ⟨runBd_ok l d hp.1 fun x hx => recs_atB hp.2 hx, runOd_all l d, runOd_batch l d hp.1 fun x hx => recs_atB hp.2 hx⟩
theorem flat_take_le {α : Type} {L : List (List α)} {k : Nat} : ((L.take k).flatten).length ≤ L.flatten.length := by
  conv => rhs; rw [← List.take_append_drop k L, List.flatten_append, List.length_append]
  omega
theorem flat_take_succ {α : Type} {L : List (List α)} {k : Nat} {x : List α} (h : L[k]? = some x) : (L.take (k + 1)).flatten = (L.take k).flatten ++ x := by
  rw [List.take_add_one, h, List.flatten_append]; simp

/-- drawn: a buffer and records -/
def DrawBufRecs (w : World) (e : Ending) (w2 : World) : Prop := ∃ (v : Value) (rs : List Row) (d : Buf) (u : Value) (rs1 : List Row) (l : List Rec), e = .returned (.tuple #[v, u]) ∧ BufR rs v d ∧ RecsR rs1 u l ∧ Rows w2 w.heap.size (rs ++ rs1) ∧ Below w.heap.size w w2 ∧ BufFit d ∧ RecsFit l ∧ d.rc.length ≤ 30 ∧ l.length ≤ 25
set_option maxHeartbeats 2000000 in
set_option maxRecDepth 100000 in
theorem drawRunBuffer_c (a : Option Addr) (len cap : Nat) (z : List Int) (w : World) (h : IsRow .u8 w a len cap z) :
    Calls Try.prog 19 #[.slice a len cap] w (DrawBufRecs w) := by
  have K0 := hid (Blk.new w #[.int .i64 0, .int .i64 0, .slice none 0 0] 29)
  have HB0 := hid (show Below w.heap.size w (w.alloc (.cells #[.int .i64 0, .int .i64 0, .slice none 0 0] 29)) from (Below.refl _ _).alloc (Nat.le_refl _) _)
  have C := hid (newReader_c a len cap z _ (h.below HB0.out))
  simp only [World.size_alloc] at C
  clear h
  go_enter Try.func19, Try.ntmps19
  go_wp2_with fail
  refine C.out.mono ?_
  rintro e w1 ⟨rfl, hr1, hb1⟩
  have K1 := hid (K0.out.below hb1 (by omega))
  have HB1 := hid (HB0.out.trans (hb1.mono (by omega)))
  have C1 := hid (someBuffer_c _ 0 w1 hr1 (by omega))
  have hs1 : w.heap.size + 1 < w1.heap.size := hr1.lt
  clear hr1 hb1 C K0 HB0
  go_wp2_with fail
  refine C1.out.mono ?_
  rintro e w2 ⟨v, rs, d, p2, rfl, hs, hf, hl, hr, hp2, hrd2, hg2⟩
  obtain ⟨A, n, c, rfl⟩ := hs.form hr
  have K2 := hid (K1.out.kept hg2 (by simp <;> omega))
  have HX := hid (And.intro hs (And.intro hr (And.intro hf hl)))
  have HG2 := hid hg2
  have C2 := hid (someRecords_c _ p2 w2 hrd2 (by omega))
  have hs2 : w1.heap.size ≤ w2.heap.size := hg2.size
  clear hs hr hf hl hrd2 hg2 C1 K1
  go_wp2_with fail
  refine C2.out.mono ?_
  rintro e w3 ⟨v, l, p3, rfl, hl25, hf20, ho3, hp3, hr3, hg3⟩
  obtain ⟨A3, c3, rfl, _, _⟩ := (Sl.of_own ho3).form
  have K3 := hid (K2.out.kept hg3 (by simp <;> omega))
  have HB3 := hid (HB1.out.trans (below_own (grown_tr HG2.out hg3) HB1.out.size (by omega)))
  have HR3 := hid ((HX.out.2.1.newer_own hg3 (by omega) (Rows.one (r := ⟨46, 4, l.length, .slice A3 l.length c3, l.flatMap rcells⟩) ho3) hs2).perm List.perm_append_comm)
  have HF := hid (And.intro hl25 hf20)
  obtain ⟨q0c, q0f⟩ := K3.out.2 0 _ rfl
  obtain ⟨q1c, q1f⟩ := K3.out.2 1 _ rfl
  obtain ⟨q2c, q2f⟩ := K3.out.2 2 _ rfl
  clear hr3 hg3 C2 K2 ho3 hl25 hf20
  go_wp2_with fail
  have RB := ((K3.out.set 0 (.int .i64 d.rm)).set 1 (.int .i64 d.lv)).set 2 (.slice A n c)
  have f0 := (RB.2 0 _ rfl).1
  have f1 := (RB.2 1 _ rfl).1
  have f2 := (RB.2 2 _ rfl).1
  refine bodyPost_ret (v := .tuple #[.agg #[.int .i64 d.rm, .int .i64 d.lv, .slice A n c], .slice A3 l.length c3]) (by simp [results, Try.results19, go_sem, f0, f1, f2]) rfl ?_
  refine ⟨_, rs, d, _, _, l, rfl, HX.out.1, rfl, Rows.base (lo := w1.heap.size) ?_ (by omega), ?_, fit20_fit HX.out.2.2.1 HX.out.2.2.2 (by omega), fit20_fit HF.out.2 HF.out.1 (by omega), HX.out.2.2.2, HF.out.1⟩
  · iterate 3 refine Rows.low ?_ (by omega)
    exact HR3.out
  · iterate 3 refine Below.setCell ?_ (by simp) _
    exact HB3.out
set_option maxHeartbeats 4000000 in
set_option maxRecDepth 100000 in
theorem equalBatchesX_c {rs rs' : List Row} {v v' : Value} {L : RecssD} {w : World} {lo lo' : Nat} (h : RecssR rs v L) (hr : Rows w lo rs) (h' : RecssR rs' v' L) (hr' : Rows w lo' rs') :
    Calls Try.prog 21 #[v, v'] w (BoolPost w true) := by
  have i1 := NestR.own_ h hr
  have i2 := NestR.own_ h' hr'
  obtain ⟨A1, k1, rfl, _, hm1⟩ := i1.form
  obtain ⟨A2, k2, rfl, _, hm2⟩ := i2.form
  unfold maxLen at hm1 hm2
  clear h hr h' hr'
  have HS := hid (And.intro i1 i2)
  generalize hn : L.length = n at *
  have b0 : ((n : Int) != (n : Int)) = false := by simp
  clear i1 i2
  go_enter Try.func21, Try.ntmps21
  go_wp2_with fail
  go_loopw [5] (fun iv wr => ∃ (i : Nat), iv = .int .i64 i ∧ i ≤ n ∧ Hid (Below w.heap.size w wr)) (fun iv _ => n - (intOf iv).toNat)
  case atStart => exact ⟨0, rfl, by omega, Below.refl _ _⟩
  case round =>
    obtain ⟨i, rfl, hi, HB⟩ := hrel
    by_cases hlt : i < n
    · obtain ⟨b, o, u, l, rfl, hbB, hx, g0, rs1, hr1, hR1⟩ := HS.out.1.elem hlt
      obtain ⟨b', o', u', l', rfl, hbB', hx', g0', rs2, hr2, hR2⟩ := HS.out.2.elem hlt
      have hll : l' = l := by rw [hx] at hx'; exact (Option.some.inj hx').symm
      subst hll
      obtain ⟨B1, m1, p1, rfl⟩ := hR1.form hr1
      obtain ⟨B2, m2, p2, rfl⟩ := hR2.form hr2
      have E := hid (fun (W : World) (hW : Below wr.heap.size wr W) => equalRecsX_c hR1 ((hr1.below HB.out).below hW) hR2 ((hr2.below HB.out).below hW))
      replace g0 := (HB.out.cell (p := ⟨b, o + i, none⟩) hbB).trans g0
      replace g0' := (HB.out.cell (p := ⟨b', o' + i, none⟩) hbB').trans g0'
      clear hx hx' hR1 hR2 hr1 hr2
      go_wp2_with fail
      go_region_with (go_at_call 22; refine (E.out _ (by first | exact Below.refl _ _ | exact (Below.refl _ _).drew | exact (Below.refl _ _).drew.drew)).mono ?_; rintro e w2 ⟨rfl, hb⟩)
      all_goals go_wp2_with fail
      all_goals
        go_roundw
        case rel => exact ⟨i + 1, by go_num, by omega, by first | exact HB.out.trans (hb.mono HB.out.size) | exact HB.out.drew.trans (hb.mono HB.out.size) | exact HB.out.drew.drew.trans (hb.mono HB.out.size)⟩
        case measure => simp [intOf]; omega
    · go_wp2_with fail
      go_ret
      exact ⟨rfl, HB.out⟩
end Go.Proofs.Ytfjpfdmlcgkfeaa
