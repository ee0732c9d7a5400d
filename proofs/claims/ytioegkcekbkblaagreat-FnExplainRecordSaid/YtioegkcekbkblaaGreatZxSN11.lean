/-
  RECORDS SENT: the model's explain. By gen_sn11.py.
-/
import Derived.Test.YtioegkcekbkblaaGreatZxSN10
namespace Go.Proofs.YtioegkcekbkblaaGreat
open Go.RowKit Go.Proofs.YtioegkcekbkblaaGreat.Nm
set_option linter.unusedSimpArgs false
set_option linter.unusedVariables false

theorem why_bad {L : List Lgr} {H : List Hnd} {q : Int} {r : Rec} {kd l : Int} (ht : treeOk L H q = true) (hr : recOk r = true) (h : entX L q r.nm r.tx r.lv = (kd, l)) (hk : kd ≠ 0) : whyX L H q r = [⟨kd, [], []⟩] := by
  unfold whyX ocX; rw [ht, hr, h]; simp only [Bool.and_self, if_true]; rw [if_neg hk]; rfl
theorem why_ok {L : List Lgr} {H : List Hnd} {q : Int} {r : Rec} {g : Int} (ht : treeOk L H q = true) (hr : recOk r = true) (h : entX L q r.nm r.tx r.lv = (0, g)) : whyX L H q r = whyOf (outs H r.nm r.tx (spX L r.nm) g) := by
  unfold whyX ocX; rw [ht, hr, h]; rfl
theorem why_last {H : List Hnd} (hl : ∀ y ∈ H, y.nm ≠ lastL) (nm tx : List UInt8) (g : Int) : whyOf (outs H nm tx [⟨[], lastL⟩] g) = [⟨if 30 ≤ g then 0 else 5, [], lastL⟩] := by
  have hO : hOf H lastL = lastH := hOf_miss hl
  have e : outs H nm tx [⟨[], lastL⟩] g = [⟨[], lastL, (askH nm tx lastH g).1, (askH nm tx lastH g).2⟩] := by simp only [outs, hO]
  rw [e]
  by_cases h : (30 : Int) ≤ g
  · rw [if_pos h, askH_sent (q := g) (by unfold lastH; show ¬ g < 30; omega) (by unfold lastH; rfl)]; rfl
  · rw [if_neg h, askH_low (by unfold lastH; show g < 30; omega)]; rfl
theorem why_step2 {H : List Hnd} {nm tx : List UInt8} {g q : Int} {ss : List Spt} {k : Nat} {s : Spt} (hx : ss[k]? = some s) (hq : lvAfter H nm tx (ss.take k) g = q) :
    whyOf (outs H nm tx (ss.take (k + 1)) g) = whyOf (outs H nm tx (ss.take k) g) ++ [⟨(askH nm tx (hOf H s.hd) q).1, s.lg, s.hd⟩] ∧ lvAfter H nm tx (ss.take (k + 1)) g = (askH nm tx (hOf H s.hd) q).2 := by
  obtain ⟨e1, e2⟩ := outs_step (H := H) (nm := nm) (tx := tx) (lv := g) hx hq
  exact ⟨by rw [e1, whyOf_app]; rfl, e2⟩
/-- append of one Reason as a run, in a region that has drawn its order -/
theorem runReason (w : World) (base : Nat) (v : Value) (l : List Rsn) (hown : w.ownsRow base 54 3 v l.length (l.flatMap rscells)) (kd : Int) (lg hd : ByteArray) (hl : l.length ≤ 1048576) (hbase : base ≤ w.heap.size) :
    ∃ v' w', (Builtin.append_ #[50, 50] 50 #[v, .slice (some ⟨w.heap.size, 0, none⟩) 1 1]).run Tryz.prog (w.alloc (.cells #[.int .i64 kd, .string lg, .string hd] 54)).drew = .ok v' w' ∧ w'.ownsRow base 54 3 v' (l ++ [(⟨kd, lg.data.toList, hd.data.toList⟩ : Rsn)]).length ((l ++ [(⟨kd, lg.data.toList, hd.data.toList⟩ : Rsn)]).flatMap rscells) ∧ w.grownBy w' v.ownBlock ∧ (v'.ownBlock = v.ownBlock ∨ v'.ownBlock = some (w.heap.size + 1)) := by
  obtain ⟨i0, hi, hz0, hz1, hz2⟩ := info_parts Tryz.infoReason
  obtain ⟨v', w', h1, h2, h3, h4⟩ := run_app1D (P := Tryz.prog) w 50 base 54 i0 _ 3 40 Tryz.underlying50 hi hz0 hz1 hz2 rfl (by decide) v l.length _ hown [.int .i64 kd, .string lg, .string hd] 54 rfl (List.all_eq_true.1 rfl) (by unfold maxLen; omega) (by omega) hbase
  exact ⟨v', w', h1, by simpa [rscells, txt_data] using h2, h3, h4⟩
theorem reason_lit (W : World) (kd : Int) (hd : ByteArray) (b base : Nat) (hb : b = W.heap.size) (hbase : base ≤ W.heap.size) : (W.alloc (.cells #[.int .i64 kd, .string ⟨#[]⟩, .string hd] 54)).ownsRow base 54 3 (.slice (some ⟨b, 0, none⟩) 1 1) ([⟨kd, [], hd.data.toList⟩] : List Rsn).length (([⟨kd, [], hd.data.toList⟩] : List Rsn).flatMap rscells) := by
  subst hb
  have h := World.ownsRow_lit (e := 54) (size := 3) W #[.int .i64 kd, .string ⟨#[]⟩, .string hd] 1 (Nat.le_refl _) (by unfold maxLen; omega) rfl
  exact own_base (by simpa [rscells, txt] using h) hbase
set_option maxHeartbeats 16000000 in
set_option maxRecDepth 100000 in
theorem specExplain_c {w : World} {B : Nat} {v : Value} {L : List Lgr} {H : List Hnd} {q : Int} (nm tx : ByteArray) (lv sq : Int) (h : TreeIn w B v L H q) (hB : B ≤ w.heap.size) (hz : treeOk L H q = true) (hr : recOk ⟨nm.data.toList, lv, tx.data.toList, sq⟩ = true) (hnm : nm.size ≤ 1048576) (htx : tx.size ≤ 1048576) :
    Calls Tryz.prog 56 #[v, .agg #[.string nm, .int .i64 lv, .string tx, .int .i64 sq]] w (RowPost w 54 3 (whyX L H q ⟨nm.data.toList, lv, tx.data.toList, sq⟩).length ((whyX L H q ⟨nm.data.toList, lv, tx.data.toList, sq⟩).flatMap rscells)) := by
  obtain ⟨b, o, n1, k1, A2, n2, k2, ls, rfl, hl, hL, hN, hn, hn8, hn1, hbB⟩ := h.opened hz
  obtain ⟨h0, hnd0, hnmm, hlen, _⟩ := tree_ns hz
  rw [← hn] at hlen
  have hcap := hl.1.cap
  unfold maxLen at hcap
  obtain ⟨hs, hh, hH⟩ := h.hands
  obtain ⟨hnd, hnl, hn6⟩ := tree_hnds hz
  obtain ⟨h1, h2, hnk⟩ := recOk_rng hr
  have CEF := hid (fun (W : World) (hW : Below w.heap.size w W) => specEffective_c (A2 := A2) (n2 := n2) (k2 := k2) q nm (hl.below hW hB) hL hN hlen hn8 (Nat.le_trans hB hW.size) hbB (by unfold maxLen; omega) h0 hnmm (tree_lv hz))
  have CO := hid (fun (W : World) (hW : Below w.heap.size w W) => specOwnFilters_c (A2 := A2) (n2 := n2) (k2 := k2) q nm (hl.below hW hB) hL hN hlen (Nat.le_trans hB hW.size) hbB h0 hnd0)
  have CS := hid (fun (W : World) (hW : Below w.heap.size w W) => specSpots_c (A2 := A2) (n2 := n2) (k2 := k2) H q nm (hl.below hW hB) hL hN hn (Nat.le_trans hB hW.size) hbB hz (by unfold maxTxt; omega))
  have CF := fun (Aq : Option Addr) (fq cq : Nat) (W : World) (hF : Fs W W.heap.size fq (.slice Aq fq cq) (ownF L nm.data.toList)) => specFiltered_c (.slice Aq fq cq) fq W.heap.size (ownF L nm.data.toList) nm tx lv sq W hF (Nat.le_refl _) (filtersOk_all (own_ok hz _)) hnm htx h1 h2
  have AT := hid (fun (s : ByteArray) (W : World) (hW : Below w.heap.size w W) => handlerAt_c (.slice A2 n2 k2) n2 B hs s W (hh.below hW hB))
  have HB0 := hid (show Below w.heap.size w ((w.alloc (.cells #[.slice (some ⟨b, o, none⟩) n1 k1, .slice A2 n2 k2, .int .i64 q] 26)).alloc (.cells #[.string nm, .int .i64 lv, .string tx, .int .i64 sq] 28)) by go_grown)
  have HT0 := hid ((Blk.new w #[.slice (some ⟨b, o, none⟩) n1 k1, .slice A2 n2 k2, .int .i64 q] 26).alloc (.cells #[.string nm, .int .i64 lv, .string tx, .int .i64 sq] 28))
  have HK0 := hid (Blk.new (w.alloc (.cells #[.slice (some ⟨b, o, none⟩) n1 k1, .slice A2 n2 k2, .int .i64 q] 26)) #[.string nm, .int .i64 lv, .string tx, .int .i64 sq] 28)
  simp only [World.size_alloc] at HK0
  have LA := hid (loggerAt_c (.slice (some ⟨b, o, none⟩) n1 k1) n1 B ls nm ((w.alloc (.cells #[.slice (some ⟨b, o, none⟩) n1 k1, .slice A2 n2 k2, .int .i64 q] 26)).alloc (.cells #[.string nm, .int .i64 lv, .string tx, .int .i64 sq] 28)) (hl.below HB0.out hB))
  rw [hN] at LA
  have hld := hid (fun (s : Spt) (hs : s ∈ spotsI L (pathN (nsOf L) nm.data.toList)) => spots_has hz _ s hs)
  have HFO := hid (fun x => hOf_ok hz x)
  have HSL := hid (spotsI_max hz hnk)
  have HHH := hid (And.intro hh (And.intro hH (And.intro hnd hnl)))
  have HBB := hid hB
  have W1 := hid (fun (hf : offT L nm.data.toList = true) => why_bad hz hr (ent_off (L := L) (q := q) (nm := nm.data.toList) (tx := tx.data.toList) (lv := lv) hf) (show (1 : Int) ≠ 0 by decide))
  have W2 := hid (fun (hf : offT L nm.data.toList = false) (h1 : lv ≤ q) => why_bad hz hr (ent_quiet (L := L) (q := q) (nm := nm.data.toList) (tx := tx.data.toList) (lv := lv) hf h1) (show (2 : Int) ≠ 0 by decide))
  have W3 := hid (fun (hf : offT L nm.data.toList = false) (h1 : ¬ lv ≤ q) (h2 : lv < levelN (nsOf L) (lvAt L) nm.data.toList) => why_bad hz hr (ent_level (L := L) (q := q) (nm := nm.data.toList) (tx := tx.data.toList) (lv := lv) hf h1 h2) (show (3 : Int) ≠ 0 by decide))
  have W4 := hid (fun (hf : offT L nm.data.toList = false) (h1 : ¬ lv ≤ q) (h2 : ¬ lv < levelN (nsOf L) (lvAt L) nm.data.toList) (h3 : filtL nm.data.toList tx.data.toList (ownF L nm.data.toList) lv = none) => why_bad hz hr (ent_filter (L := L) (q := q) (nm := nm.data.toList) (tx := tx.data.toList) (lv := lv) hf h1 h2 h3) (show (4 : Int) ≠ 0 by decide))
  have W5 := hid (fun (v : Int) (hf : offT L nm.data.toList = false) (h1 : ¬ lv ≤ q) (h2 : ¬ lv < levelN (nsOf L) (lvAt L) nm.data.toList) (h3 : filtL nm.data.toList tx.data.toList (ownF L nm.data.toList) lv = some v) => why_ok hz hr (ent_sent (L := L) (q := q) (nm := nm.data.toList) (tx := tx.data.toList) (lv := lv) hf h1 h2 h3))
  have W6 := hid (fun (v : Int) (hf : offT L nm.data.toList = false) (h1 : ¬ lv ≤ q) (h2 : ¬ lv < levelN (nsOf L) (lvAt L) nm.data.toList) (h3 : filtL nm.data.toList tx.data.toList (ownF L nm.data.toList) lv = some v) => (show 1 ≤ v ∧ v ≤ 60 by
    have h9 := ent_range (L := L) (q := q) (nm := nm.data.toList) (tx := tx.data.toList) (lv := lv) hz (recOk_rng hr).1 (recOk_rng hr).2.1
    rw [ent_sent hf h1 h2 h3] at h9
    exact h9))
  have HSX := hid (show spX L nm.data.toList = if spotsI L (pathN (nsOf L) nm.data.toList) = [] then [⟨[], lastL⟩] else spotsI L (pathN (nsOf L) nm.data.toList) from rfl)
  have HLAST := hid (fun (g : Int) => why_last hnl nm.data.toList tx.data.toList g)
  generalize whyX L H q ⟨nm.data.toList, lv, tx.data.toList, sq⟩ = Y at W1 W2 W3 W4 W5 ⊢
  generalize spX L nm.data.toList = SP at W5 HSX
  generalize spotsI L (pathN (nsOf L) nm.data.toList) = sp at HSX HSL CS hld
  by_cases hm : nm.data.toList ∈ nsOf L
  · have hns := near_self h0 hnd0 hm
    have hlt : nearN (nsOf L) nm.data.toList < n1 := by rw [← hlen]; exact hns.1
    have hix : idxL (nsOf L) nm.data.toList = ((nearN (nsOf L) nm.data.toList : Nat) : Int) := by
      unfold idxL
      rw [if_pos hm]
      have : (nsOf L).idxOf nm.data.toList = nearN (nsOf L) nm.data.toList := (near_hit h0 hnd0 _ _ (by rw [List.getElem?_eq_getElem (List.idxOf_lt_length_of_mem hm), List.getElem_idxOf])).symm
      rw [this]
    rw [hix] at LA
    have HOFF := hid (show offT L nm.data.toList = offAt L (nearN (nsOf L) nm.data.toList) by unfold offT; rw [decide_eq_true hm]; rfl)
    obtain ⟨p, A3, hn', k3, A4, fn, k4, hp, hps, _, _, g0, g1, g2, g3, g4, g5⟩ := logger_at (hl.below HB0.out hB) hL hlt
    clear hns hix hm hp hps g0 g1 g2 g3 g4
    clear h hl hL hN hlen hn h0 hnd0 hnmm hh hH hnd hnl hn6 hz hr hnk
    generalize nearN (nsOf L) nm.data.toList = ix at *
    have s0 : (0 : Int) ≤ (ix : Int) := by omega
    have s1 : (ix : Int) < (n1 : Int) := by omega
    have s2 : ((ix : Int)).toNat = ix := by simp
    cases hof : offAt L ix with
    | true =>
      rw [hof] at g5
      have HE := hid (W1.out (by rw [HOFF.out, hof]))
      clear hof CF
      go_enter Tryz.func56, Tryz.ntmps56
      go_wp2_with (go_at_call 83; refine (LA.out).mono ?_; rintro e w2 ⟨rfl, hw2⟩; have hw2 := hw2.symm; subst hw2)
      go_ret
      exact ⟨_, rfl, by rw [HE.out]; exact reason_lit ((w.alloc (.cells #[.slice (some ⟨b, o, none⟩) n1 k1, .slice A2 n2 k2, .int .i64 q] 26)).alloc (.cells #[.string nm, .int .i64 lv, .string tx, .int .i64 sq] 28)) 1 ⟨#[]⟩ _ _ (by simp) (HB0.out).size, (HB0.out).alloc (HB0.out).size _⟩
    | false =>
      rw [hof] at g5
      have HOF := hid (show offT L nm.data.toList = false by rw [HOFF.out, hof])
      clear hof HOFF
      go_enter Tryz.func56, Tryz.ntmps56
      by_cases hq : lv ≤ q
      · have HEa := hid (W2.out HOF.out hq)
        go_wp2_with (go_at_call 83; refine (LA.out).mono ?_; rintro e w2 ⟨rfl, hw2⟩; have hw2 := hw2.symm; subst hw2)
        go_ret
        exact ⟨_, rfl, by rw [HEa.out]; exact reason_lit ((w.alloc (.cells #[.slice (some ⟨b, o, none⟩) n1 k1, .slice A2 n2 k2, .int .i64 q] 26)).alloc (.cells #[.string nm, .int .i64 lv, .string tx, .int .i64 sq] 28)) 2 ⟨#[]⟩ _ _ (by simp) (HB0.out).size, (HB0.out).alloc (HB0.out).size _⟩
      · have SG6 := hid (fun (W : World) (hR : Below ((w.alloc (.cells #[.slice (some ⟨b, o, none⟩) n1 k1, .slice A2 n2 k2, .int .i64 q] 26)).alloc (.cells #[.string nm, .int .i64 lv, .string tx, .int .i64 sq] 28)).heap.size ((w.alloc (.cells #[.slice (some ⟨b, o, none⟩) n1 k1, .slice A2 n2 k2, .int .i64 q] 26)).alloc (.cells #[.string nm, .int .i64 lv, .string tx, .int .i64 sq] 28)) W) => (show (fun w' : World => w'.cell? ⟨w.heap.size, 0, none⟩ = some (.slice (some ⟨b, o, none⟩) n1 k1) ∧ w'.cell? ⟨w.heap.size, 1, none⟩ = some (.slice A2 n2 k2) ∧ w'.cell? ⟨w.heap.size, 2, none⟩ = some (.int .i64 q) ∧ w'.cell? ⟨w.heap.size + 1, 0, none⟩ = some (.string nm) ∧ w'.cell? ⟨w.heap.size + 1, 1, none⟩ = some (.int .i64 lv) ∧ w'.cell? ⟨w.heap.size + 1, 2, none⟩ = some (.string tx) ∧ w'.cell? ⟨w.heap.size + 1, 3, none⟩ = some (.int .i64 sq)) W from ⟨((HT0.out.to hR).2 0 _ rfl).1, ((HT0.out.to hR).2 1 _ rfl).1, ((HT0.out.to hR).2 2 _ rfl).1, ((HK0.out.to hR).2 0 _ rfl).1, ((HK0.out.to hR).2 1 _ rfl).1, ((HK0.out.to hR).2 2 _ rfl).1, ((HK0.out.to hR).2 3 _ rfl).1⟩))
        go_wp2_with (go_at_call 83; refine (LA.out).mono ?_; rintro e w2 ⟨rfl, hw2⟩; have hw2 := hw2.symm; subst hw2)
        generalize hw0 : (w.alloc (.cells #[.slice (some ⟨b, o, none⟩) n1 k1, .slice A2 n2 k2, .int .i64 q] 26)).alloc (.cells #[.string nm, .int .i64 lv, .string tx, .int .i64 sq] 28) = w0 at *
        have hw02 : w.heap.size + 1 + 1 ≤ w0.heap.size := by rw [← hw0]; simp
        clear hw0
        have HR60 := hid ((Below.refl w0.heap.size w0).drew)
        go_cut [40] from 41 (fun s40 wc => s40 = .bool (decide (lv < levelN (nsOf L) (lvAt L) nm.data.toList)) ∧ Hid (Below w0.heap.size w0 wc))
        case first =>
          refine wp_region_held_drew (S := fun w' : World => w'.cell? ⟨w.heap.size, 0, none⟩ = some (.slice (some ⟨b, o, none⟩) n1 k1) ∧ w'.cell? ⟨w.heap.size, 1, none⟩ = some (.slice A2 n2 k2) ∧ w'.cell? ⟨w.heap.size, 2, none⟩ = some (.int .i64 q) ∧ w'.cell? ⟨w.heap.size + 1, 0, none⟩ = some (.string nm) ∧ w'.cell? ⟨w.heap.size + 1, 1, none⟩ = some (.int .i64 lv) ∧ w'.cell? ⟨w.heap.size + 1, 2, none⟩ = some (.string tx) ∧ w'.cell? ⟨w.heap.size + 1, 3, none⟩ = some (.int .i64 sq)) (by kernel_rfl) (SG6.out _ HR60.out) (fun hS => ?_)
          refine wpAnyH_take (i := 0) (oi := ?oi101) (v := ?v101) ?hi101 (by kernel_rfl) ?hf101 ?hr101 ?hQ101 (Or.inl ⟨?hw101, ?hy101⟩) (by assumption) ?rest101
          case hi101 => simp only [List.getElem?_toArray, List.getElem?_cons_succ, List.getElem?_cons_zero]; rfl
          case hf101 => kernel_rfl
          case hr101 => kernel_rfl
          case hw101 => rfl
          case hy101 => (intro w hSw; (try dsimp only at hSw); go_simp; all_goals (first | done | with_reducible rfl))
          case hQ101 => exact fun _ _ _ h => h
          simp only [Act.put, List.setIfInBounds_toArray, List.set_cons_zero, List.set_cons_succ]
          refine wpAnyH_take (i := 1) (oi := ?oi102) (v := ?v102) ?hi102 (by kernel_rfl) ?hf102 ?hr102 ?hQ102 (Or.inl ⟨?hw102, ?hy102⟩) (by assumption) ?rest102
          case hi102 => simp only [List.getElem?_toArray, List.getElem?_cons_succ, List.getElem?_cons_zero]; rfl
          case hf102 => kernel_rfl
          case hr102 => kernel_rfl
          case hw102 => rfl
          case hy102 => (intro w hSw; (try dsimp only at hSw); go_simp; all_goals (first | done | with_reducible rfl))
          case hQ102 => exact fun _ _ _ h => h
          simp only [Act.put, List.setIfInBounds_toArray, List.set_cons_zero, List.set_cons_succ]
          refine wpAnyH_take (i := 2) (oi := ?oi103) (v := ?v103) ?hi103 (by kernel_rfl) ?hf103 ?hr103 ?hQ103 (Or.inl ⟨?hw103, ?hy103⟩) (by assumption) ?rest103
          case hi103 => simp only [List.getElem?_toArray, List.getElem?_cons_succ, List.getElem?_cons_zero]; rfl
          case hf103 => kernel_rfl
          case hr103 => kernel_rfl
          case hw103 => rfl
          case hy103 => (intro w hSw; (try dsimp only at hSw); go_simp; all_goals (first | done | with_reducible rfl))
          case hQ103 => exact fun _ _ _ h => h
          simp only [Act.put, List.setIfInBounds_toArray, List.set_cons_zero, List.set_cons_succ]
          refine wpAnyH_take (i := 3) (oi := ?oi104) (v := ?v104) ?hi104 (by kernel_rfl) ?hf104 ?hr104 ?hQ104 (Or.inl ⟨?hw104, ?hy104⟩) (by assumption) ?rest104
          case hi104 => simp only [List.getElem?_toArray, List.getElem?_cons_succ, List.getElem?_cons_zero]; rfl
          case hf104 => kernel_rfl
          case hr104 => kernel_rfl
          case hw104 => rfl
          case hy104 => (intro w hSw; (try dsimp only at hSw); go_simp; all_goals (first | done | with_reducible rfl))
          case hQ104 => exact fun _ _ _ h => h
          simp only [Act.put, List.setIfInBounds_toArray, List.set_cons_zero, List.set_cons_succ]
          refine wpAnyH_take (i := 4) (oi := ?oi105) (v := ?v105) ?hi105 (by kernel_rfl) ?hf105 ?hr105 ?hQ105 (Or.inl ⟨?hw105, ?hy105⟩) (by assumption) ?rest105
          case hi105 => simp only [List.getElem?_toArray, List.getElem?_cons_succ, List.getElem?_cons_zero]; rfl
          case hf105 => kernel_rfl
          case hr105 => kernel_rfl
          case hw105 => rfl
          case hy105 => (intro w hSw; (try dsimp only at hSw); go_simp; all_goals (first | done | with_reducible rfl))
          case hQ105 => exact fun _ _ _ h => h
          simp only [Act.put, List.setIfInBounds_toArray, List.set_cons_zero, List.set_cons_succ]
          refine wpAnyH_ready (rs := [5]) (by kernel_rfl) (by simp) ?_
          refine AllReadyH.cons (o := ?oi106) ?hi106 (fun K hK => ?step106) AllReadyH.nil
          case hi106 => simp only [List.getElem?_toArray, List.getElem?_cons_succ, List.getElem?_cons_zero]; rfl
          rw [if_pos (by rfl)]
          go_simp
          go_at_call 109
          refine (CEF.out _ (HB0.out.trans (HR60.out.mono HB0.out.size))).mono ?_
          rintro e w1 ⟨rfl, hb⟩
          have HR61 := hid (HR60.out.trans (hb.mono HR60.out.size))
          clear hb
          refine hK.out _ _ (SG6.out _ HR61.out) (fun hS => ?_)
          refine wpAnyH_take (i := 6) (oi := ?oi107) (v := ?v107) ?hi107 (by kernel_rfl) ?hf107 ?hr107 ?hQ107 (Or.inl ⟨?hw107, ?hy107⟩) (by assumption) ?rest107
          case hi107 => simp only [List.getElem?_toArray, List.getElem?_cons_succ, List.getElem?_cons_zero]; rfl
          case hf107 => kernel_rfl
          case hr107 => kernel_rfl
          case hw107 => rfl
          case hy107 => (intro w hSw; (try dsimp only at hSw); go_simp; all_goals (first | done | with_reducible rfl))
          case hQ107 => exact fun _ _ _ h => h
          simp only [Act.put, List.setIfInBounds_toArray, List.set_cons_zero, List.set_cons_succ]
          refine wpAnyH_take (i := 7) (oi := ?oi108) (v := ?v108) ?hi108 (by kernel_rfl) ?hf108 ?hr108 ?hQ108 (Or.inl ⟨?hw108, ?hy108⟩) (by assumption) ?rest108
          case hi108 => simp only [List.getElem?_toArray, List.getElem?_cons_succ, List.getElem?_cons_zero]; rfl
          case hf108 => kernel_rfl
          case hr108 => kernel_rfl
          case hw108 => rfl
          case hy108 => (intro w hSw; (try dsimp only at hSw); go_simp; all_goals (first | done | with_reducible rfl))
          case hQ108 => exact fun _ _ _ h => h
          simp only [Act.put, List.setIfInBounds_toArray, List.set_cons_zero, List.set_cons_succ]
          refine wpAnyH_done (by kernel_rfl) ?_ _
          clear hS
          go_wp2_with fail
          go_meet
          case rel => exact ⟨rfl, HR61.out⟩
        case rest =>
          obtain ⟨rfl, HR6⟩ := hcut
          rename World => w1
          have HB1 := hid (HB0.out.trans (HR6.out.mono HB0.out.size))
          have HT1 := hid (HT0.out.to HR6.out)
          have HK1 := hid (HK0.out.to HR6.out)
          have hw1 : w.heap.size + 1 < w1.heap.size := HK1.out.1
          have d0 := (HK1.out.2 0 _ rfl).1
          clear SG6 HR60 HR6 HB0 HT0 HK0 LA
          by_cases hle : lv < levelN (nsOf L) (lvAt L) nm.data.toList
          · have HEa := hid (W3.out HOF.out hq hle)
            rw [decide_eq_true hle]
            go_wp2_with fail
            go_ret
            exact ⟨_, rfl, by rw [HEa.out]; exact reason_lit w1 3 ⟨#[]⟩ _ _ (by simp) (HB1.out).size, (HB1.out).alloc (HB1.out).size _⟩
          · rw [decide_eq_false hle]
            cases hfl : filtL nm.data.toList tx.data.toList (ownF L nm.data.toList) lv with
            | none =>
              rw [hfl] at CF
              have CF := hid (fun (Aq : Option Addr) (fq cq : Nat) (W : World) (hF : Fs W W.heap.size fq (.slice Aq fq cq) (ownF L nm.data.toList)) => (show Calls _ _ _ _ (fun e w' => e = .returned (.tuple #[.agg #[.string ⟨#[]⟩, .int .i64 0, .string ⟨#[]⟩, .int .i64 0], .bool false]) ∧ Below W.heap.size W w') from CF Aq fq cq W hF))
              have HEa := hid (W4.out HOF.out (by omega) (by omega) hfl)
              clear hfl
              go_wp2_with fail
              go_cut [6, 7] from 50 (fun s6 s7 wc => ∃ bx, s6 = .pointer (some ⟨bx, 0, none⟩) ∧ s7 = .bool false ∧ w1.heap.size ≤ bx ∧ Hid (Blk wc bx [.string ⟨#[]⟩, .int .i64 0, .string ⟨#[]⟩, .int .i64 0]) ∧ Hid (Below w1.heap.size w1 wc))
              case first =>
                have HR0 := hid ((Below.refl w1.heap.size w1).drew)
                have SF := hid (fun (W : World) (hR : Below w1.heap.size w1 W) => (show (fun w' : World => w'.cell? ⟨w.heap.size, 0, none⟩ = some (.slice (some ⟨b, o, none⟩) n1 k1) ∧ w'.cell? ⟨w.heap.size, 1, none⟩ = some (.slice A2 n2 k2) ∧ w'.cell? ⟨w.heap.size, 2, none⟩ = some (.int .i64 q) ∧ w'.cell? ⟨w.heap.size + 1, 0, none⟩ = some (.string nm) ∧ w'.cell? ⟨w.heap.size + 1, 1, none⟩ = some (.int .i64 lv) ∧ w'.cell? ⟨w.heap.size + 1, 2, none⟩ = some (.string tx) ∧ w'.cell? ⟨w.heap.size + 1, 3, none⟩ = some (.int .i64 sq)) W from ⟨((HT1.out.to hR).2 0 _ rfl).1, ((HT1.out.to hR).2 1 _ rfl).1, ((HT1.out.to hR).2 2 _ rfl).1, ((HK1.out.to hR).2 0 _ rfl).1, ((HK1.out.to hR).2 1 _ rfl).1, ((HK1.out.to hR).2 2 _ rfl).1, ((HK1.out.to hR).2 3 _ rfl).1⟩))
                refine wp_region_held_drew (S := fun w' : World => w'.cell? ⟨w.heap.size, 0, none⟩ = some (.slice (some ⟨b, o, none⟩) n1 k1) ∧ w'.cell? ⟨w.heap.size, 1, none⟩ = some (.slice A2 n2 k2) ∧ w'.cell? ⟨w.heap.size, 2, none⟩ = some (.int .i64 q) ∧ w'.cell? ⟨w.heap.size + 1, 0, none⟩ = some (.string nm) ∧ w'.cell? ⟨w.heap.size + 1, 1, none⟩ = some (.int .i64 lv) ∧ w'.cell? ⟨w.heap.size + 1, 2, none⟩ = some (.string tx) ∧ w'.cell? ⟨w.heap.size + 1, 3, none⟩ = some (.int .i64 sq)) (by kernel_rfl) (SF.out _ HR0.out) (fun hS => ?_)
                refine wpAnyH_take (i := 0) (oi := ?oi109) (v := ?v109) ?hi109 (by kernel_rfl) ?hf109 ?hr109 ?hQ109 (Or.inl ⟨?hw109, ?hy109⟩) (by assumption) ?rest109
                case hi109 => simp only [List.getElem?_toArray, List.getElem?_cons_succ, List.getElem?_cons_zero]; rfl
                case hf109 => kernel_rfl
                case hr109 => kernel_rfl
                case hw109 => rfl
                case hy109 => (intro w hSw; (try dsimp only at hSw); go_simp; all_goals (first | done | with_reducible rfl))
                case hQ109 => exact fun _ _ _ h => h
                simp only [Act.put, List.setIfInBounds_toArray, List.set_cons_zero, List.set_cons_succ]
                refine wpAnyH_take (i := 1) (oi := ?oi110) (v := ?v110) ?hi110 (by kernel_rfl) ?hf110 ?hr110 ?hQ110 (Or.inl ⟨?hw110, ?hy110⟩) (by assumption) ?rest110
                case hi110 => simp only [List.getElem?_toArray, List.getElem?_cons_succ, List.getElem?_cons_zero]; rfl
                case hf110 => kernel_rfl
                case hr110 => kernel_rfl
                case hw110 => rfl
                case hy110 => (intro w hSw; (try dsimp only at hSw); go_simp; all_goals (first | done | with_reducible rfl))
                case hQ110 => exact fun _ _ _ h => h
                simp only [Act.put, List.setIfInBounds_toArray, List.set_cons_zero, List.set_cons_succ]
                refine wpAnyH_take (i := 2) (oi := ?oi111) (v := ?v111) ?hi111 (by kernel_rfl) ?hf111 ?hr111 ?hQ111 (Or.inl ⟨?hw111, ?hy111⟩) (by assumption) ?rest111
                case hi111 => simp only [List.getElem?_toArray, List.getElem?_cons_succ, List.getElem?_cons_zero]; rfl
                case hf111 => kernel_rfl
                case hr111 => kernel_rfl
                case hw111 => rfl
                case hy111 => (intro w hSw; (try dsimp only at hSw); go_simp; all_goals (first | done | with_reducible rfl))
                case hQ111 => exact fun _ _ _ h => h
                simp only [Act.put, List.setIfInBounds_toArray, List.set_cons_zero, List.set_cons_succ]
                refine wpAnyH_take (i := 4) (oi := ?oi112) (v := ?v112) ?hi112 (by kernel_rfl) ?hf112 ?hr112 ?hQ112 (Or.inl ⟨?hw112, ?hy112⟩) (by assumption) ?rest112
                case hi112 => simp only [List.getElem?_toArray, List.getElem?_cons_succ, List.getElem?_cons_zero]; rfl
                case hf112 => kernel_rfl
                case hr112 => kernel_rfl
                case hw112 => rfl
                case hy112 => (intro w hSw; (try dsimp only at hSw); go_simp; all_goals (first | done | with_reducible rfl))
                case hQ112 => exact fun _ _ _ h => h
                simp only [Act.put, List.setIfInBounds_toArray, List.set_cons_zero, List.set_cons_succ]
                generalize hwd : w1.drew = wd at *
                clear hwd
                refine wpAnyH_ready (rs := [3, 9]) (by kernel_rfl) (by simp) ?_
                refine AllReadyH.cons (o := ?oi113) ?hi113 (fun K hK => ?stepA113) (AllReadyH.cons (o := ?oj113) ?hj113 (fun K hK => ?stepB113) AllReadyH.nil)
                case hi113 => simp only [List.getElem?_toArray, List.getElem?_cons_succ, List.getElem?_cons_zero]; rfl
                case hj113 => simp only [List.getElem?_toArray, List.getElem?_cons_succ, List.getElem?_cons_zero]; rfl
                all_goals rw [if_pos (by rfl)]
                all_goals go_simp
                · go_at_call 96
                  refine (CO.out _ (HB1.out.trans ((HR0.out).mono HB1.out.size))).mono ?_
                  rintro e wa1 ⟨Aq, fq, cq, rfl, hF, hb⟩
                  have HF1 := hid hF
                  have HR1 := hid ((HR0.out).trans (hb.mono (HR0.out).size))
                  clear hb hF
                  refine hK.out _ _ (SF.out _ HR1.out) (fun hS => ?_)
                  refine wpAnyH_ready (rs := [5, 9]) (by kernel_rfl) (by simp) ?_
                  refine AllReadyH.cons (o := ?oi114) ?hi114 (fun K hK => ?stepA114) (AllReadyH.cons (o := ?oj114) ?hj114 (fun K hK => ?stepB114) AllReadyH.nil)
                  case hi114 => simp only [List.getElem?_toArray, List.getElem?_cons_succ, List.getElem?_cons_zero]; rfl
                  case hj114 => simp only [List.getElem?_toArray, List.getElem?_cons_succ, List.getElem?_cons_zero]; rfl
                  all_goals rw [if_pos (by rfl)]
                  all_goals go_simp
                  · go_at_call 95
                    refine (CF.out _ _ _ _ (HF1.out)).mono ?_
                    rintro e wa2 ⟨rfl, hb⟩
                    have HR2 := hid ((HR1.out).trans (hb.mono (HR1.out).size))
                    clear hb
                    refine hK.out _ _ (SF.out _ HR2.out) (fun hS => ?_)
                    refine wpAnyH_take (i := 6) (oi := ?oi115) (v := ?v115) ?hi115 (by kernel_rfl) ?hf115 ?hr115 ?hQ115 (Or.inl ⟨?hw115, ?hy115⟩) (by assumption) ?rest115
                    case hi115 => simp only [List.getElem?_toArray, List.getElem?_cons_succ, List.getElem?_cons_zero]; rfl
                    case hf115 => kernel_rfl
                    case hr115 => kernel_rfl
                    case hw115 => rfl
                    case hy115 => (intro w hSw; (try dsimp only at hSw); go_simp; all_goals (first | done | with_reducible rfl))
                    case hQ115 => exact fun _ _ _ h => h
                    simp only [Act.put, List.setIfInBounds_toArray, List.set_cons_zero, List.set_cons_succ]
                    refine wpAnyH_take (i := 7) (oi := ?oi116) (v := ?v116) ?hi116 (by kernel_rfl) ?hf116 ?hr116 ?hQ116 (Or.inl ⟨?hw116, ?hy116⟩) (by assumption) ?rest116
                    case hi116 => simp only [List.getElem?_toArray, List.getElem?_cons_succ, List.getElem?_cons_zero]; rfl
                    case hf116 => kernel_rfl
                    case hr116 => kernel_rfl
                    case hw116 => rfl
                    case hy116 => (intro w hSw; (try dsimp only at hSw); go_simp; all_goals (first | done | with_reducible rfl))
                    case hQ116 => exact fun _ _ _ h => h
                    simp only [Act.put, List.setIfInBounds_toArray, List.set_cons_zero, List.set_cons_succ]
                    refine wpAnyH_take (i := 8) (oi := ?oi117) (v := ?v117) ?hi117 (by kernel_rfl) ?hf117 ?hr117 ?hQ117 (Or.inl ⟨?hw117, ?hy117⟩) (by assumption) ?rest117
                    case hi117 => simp only [List.getElem?_toArray, List.getElem?_cons_succ, List.getElem?_cons_zero]; rfl
                    case hf117 => kernel_rfl
                    case hr117 => kernel_rfl
                    case hw117 => rfl
                    case hy117 => (intro w hSw; (try dsimp only at hSw); go_simp; all_goals (first | done | with_reducible rfl))
                    case hQ117 => exact fun _ _ _ h => h
                    simp only [Act.put, List.setIfInBounds_toArray, List.set_cons_zero, List.set_cons_succ]
                    refine wpAnyH_ready (rs := [9]) (by kernel_rfl) (by simp) ?_
                    refine AllReadyH.cons (o := ?oi118) ?hi118 (fun K hK => ?step118) AllReadyH.nil
                    case hi118 => simp only [List.getElem?_toArray, List.getElem?_cons_succ, List.getElem?_cons_zero]; rfl
                    rw [if_pos (by rfl)]
                    go_simp
                    have HR3 := hid ((HR2.out).alloc (HR2.out).size (.cells #[.string ⟨#[]⟩, .int .i64 0, .string ⟨#[]⟩, .int .i64 0] 28))
                    have KX3 := hid (Blk.new wa2 #[.string ⟨#[]⟩, .int .i64 0, .string ⟨#[]⟩, .int .i64 0] 28)
                    have hbx : w1.heap.size ≤ wa2.heap.size := (HR2.out).size
                    refine hK.out _ _ (SF.out _ HR3.out) (fun hS => ?_)
                    generalize hbxx : wa2.heap.size = bx at *
                    generalize wa2.alloc (.cells #[.string ⟨#[]⟩, .int .i64 0, .string ⟨#[]⟩, .int .i64 0] 28) = wx3 at *
                    clear hbxx
                    have HR9 := hid (below_setCellsX bx hbx [.string ⟨#[]⟩, .int .i64 0, .string ⟨#[]⟩, .int .i64 0] 0 _ (HR3.out))
                    have RB := hid ((KX3.out).storeX (vs := [.string ⟨#[]⟩, .int .i64 0, .string ⟨#[]⟩, .int .i64 0]) rfl)
                    have hth := (KX3.out).thereX
                    refine wpAnyH_ready (rs := [10]) (by kernel_rfl) (by simp) ?_
                    refine AllReadyH.cons (o := ?oi119) ?hi119 (fun K hK => ?step119) AllReadyH.nil
                    case hi119 => simp only [List.getElem?_toArray, List.getElem?_cons_succ, List.getElem?_cons_zero]; rfl
                    rw [if_pos (by rfl)]
                    refine wp_store_mid 28 (.tmp 6) (.tmp 57) rfl bx 0 #[.string ⟨#[]⟩, .int .i64 0, .string ⟨#[]⟩, .int .i64 0] (by rfl) (by rfl) hth Tryz.sizeRecordX (all_oneCell_toArray (cs := [.string ⟨#[]⟩, .int .i64 0, .string ⟨#[]⟩, .int .i64 0]) (List.all_eq_true.1 rfl)) ?_
                    refine hK.out _ _ (SF.out _ HR9.out) (fun hS => ?_)
                    simp only [Act.put, List.setIfInBounds_toArray, List.set_cons_zero, List.set_cons_succ]
                    refine wpAnyH_take (i := 11) (oi := ?oi120) (v := ?v120) ?hi120 (by kernel_rfl) ?hf120 ?hr120 ?hQ120 (Or.inl ⟨?hw120, ?hy120⟩) (by assumption) ?rest120
                    case hi120 => simp only [List.getElem?_toArray, List.getElem?_cons_succ, List.getElem?_cons_zero]; rfl
                    case hf120 => kernel_rfl
                    case hr120 => kernel_rfl
                    case hw120 => rfl
                    case hy120 => (intro w hSw; (try dsimp only at hSw); go_simp; all_goals (first | done | with_reducible rfl))
                    case hQ120 => exact fun _ _ _ h => h
                    simp only [Act.put, List.setIfInBounds_toArray, List.set_cons_zero, List.set_cons_succ]
                    refine wpAnyH_done (by kernel_rfl) ?_ _
                    clear hS hth
                    go_wp2_with fail
                    go_meet
                    case rel => exact ⟨_, rfl, rfl, hbx, RB.out, HR9.out⟩
                  · have HR4 := hid ((HR1.out).alloc (HR1.out).size (.cells #[.string ⟨#[]⟩, .int .i64 0, .string ⟨#[]⟩, .int .i64 0] 28))
                    have KX4 := hid (Blk.new wa1 #[.string ⟨#[]⟩, .int .i64 0, .string ⟨#[]⟩, .int .i64 0] 28)
                    have hbx : w1.heap.size ≤ wa1.heap.size := (HR1.out).size
                    have HF4 := hid (show Fs (wa1.alloc (.cells #[.string ⟨#[]⟩, .int .i64 0, .string ⟨#[]⟩, .int .i64 0] 28)) (wa1.alloc (.cells #[.string ⟨#[]⟩, .int .i64 0, .string ⟨#[]⟩, .int .i64 0] 28)).heap.size fq (.slice Aq fq cq) (ownF L nm.data.toList) from ⟨((HF1.out).1.below ((Below.refl wa1.heap.size wa1).alloc (Nat.le_refl _) _) (Nat.le_refl _)).more (by simp), (HF1.out).2⟩)
                    refine hK.out _ _ (SF.out _ HR4.out) (fun hS => ?_)
                    generalize hbxx : wa1.heap.size = bx at *
                    generalize wa1.alloc (.cells #[.string ⟨#[]⟩, .int .i64 0, .string ⟨#[]⟩, .int .i64 0] 28) = wx4 at *
                    clear hbxx
                    refine wpAnyH_ready (rs := [5]) (by kernel_rfl) (by simp) ?_
                    refine AllReadyH.cons (o := ?oi121) ?hi121 (fun K hK => ?step121) AllReadyH.nil
                    case hi121 => simp only [List.getElem?_toArray, List.getElem?_cons_succ, List.getElem?_cons_zero]; rfl
                    rw [if_pos (by rfl)]
                    go_simp
                    go_at_call 95
                    refine (CF.out _ _ _ _ (HF4.out)).mono ?_
                    rintro e wa5 ⟨rfl, hb⟩
                    have HR5 := hid ((HR4.out).trans (hb.mono (HR4.out).size))
                    have KX5 := hid ((KX4.out).to hb)
                    clear hb
                    refine hK.out _ _ (SF.out _ HR5.out) (fun hS => ?_)
                    refine wpAnyH_take (i := 6) (oi := ?oi122) (v := ?v122) ?hi122 (by kernel_rfl) ?hf122 ?hr122 ?hQ122 (Or.inl ⟨?hw122, ?hy122⟩) (by assumption) ?rest122
                    case hi122 => simp only [List.getElem?_toArray, List.getElem?_cons_succ, List.getElem?_cons_zero]; rfl
                    case hf122 => kernel_rfl
                    case hr122 => kernel_rfl
                    case hw122 => rfl
                    case hy122 => (intro w hSw; (try dsimp only at hSw); go_simp; all_goals (first | done | with_reducible rfl))
                    case hQ122 => exact fun _ _ _ h => h
                    simp only [Act.put, List.setIfInBounds_toArray, List.set_cons_zero, List.set_cons_succ]
                    refine wpAnyH_take (i := 7) (oi := ?oi123) (v := ?v123) ?hi123 (by kernel_rfl) ?hf123 ?hr123 ?hQ123 (Or.inl ⟨?hw123, ?hy123⟩) (by assumption) ?rest123
                    case hi123 => simp only [List.getElem?_toArray, List.getElem?_cons_succ, List.getElem?_cons_zero]; rfl
                    case hf123 => kernel_rfl
                    case hr123 => kernel_rfl
                    case hw123 => rfl
                    case hy123 => (intro w hSw; (try dsimp only at hSw); go_simp; all_goals (first | done | with_reducible rfl))
                    case hQ123 => exact fun _ _ _ h => h
                    simp only [Act.put, List.setIfInBounds_toArray, List.set_cons_zero, List.set_cons_succ]
                    refine wpAnyH_take (i := 8) (oi := ?oi124) (v := ?v124) ?hi124 (by kernel_rfl) ?hf124 ?hr124 ?hQ124 (Or.inl ⟨?hw124, ?hy124⟩) (by assumption) ?rest124
                    case hi124 => simp only [List.getElem?_toArray, List.getElem?_cons_succ, List.getElem?_cons_zero]; rfl
                    case hf124 => kernel_rfl
                    case hr124 => kernel_rfl
                    case hw124 => rfl
                    case hy124 => (intro w hSw; (try dsimp only at hSw); go_simp; all_goals (first | done | with_reducible rfl))
                    case hQ124 => exact fun _ _ _ h => h
                    simp only [Act.put, List.setIfInBounds_toArray, List.set_cons_zero, List.set_cons_succ]
                    have HR9 := hid (below_setCellsX bx hbx [.string ⟨#[]⟩, .int .i64 0, .string ⟨#[]⟩, .int .i64 0] 0 _ (HR5.out))
                    have RB := hid ((KX5.out).storeX (vs := [.string ⟨#[]⟩, .int .i64 0, .string ⟨#[]⟩, .int .i64 0]) rfl)
                    have hth := (KX5.out).thereX
                    refine wpAnyH_ready (rs := [10]) (by kernel_rfl) (by simp) ?_
                    refine AllReadyH.cons (o := ?oi125) ?hi125 (fun K hK => ?step125) AllReadyH.nil
                    case hi125 => simp only [List.getElem?_toArray, List.getElem?_cons_succ, List.getElem?_cons_zero]; rfl
                    rw [if_pos (by rfl)]
                    refine wp_store_mid 28 (.tmp 6) (.tmp 57) rfl bx 0 #[.string ⟨#[]⟩, .int .i64 0, .string ⟨#[]⟩, .int .i64 0] (by rfl) (by rfl) hth Tryz.sizeRecordX (all_oneCell_toArray (cs := [.string ⟨#[]⟩, .int .i64 0, .string ⟨#[]⟩, .int .i64 0]) (List.all_eq_true.1 rfl)) ?_
                    refine hK.out _ _ (SF.out _ HR9.out) (fun hS => ?_)
                    simp only [Act.put, List.setIfInBounds_toArray, List.set_cons_zero, List.set_cons_succ]
                    refine wpAnyH_take (i := 11) (oi := ?oi126) (v := ?v126) ?hi126 (by kernel_rfl) ?hf126 ?hr126 ?hQ126 (Or.inl ⟨?hw126, ?hy126⟩) (by assumption) ?rest126
                    case hi126 => simp only [List.getElem?_toArray, List.getElem?_cons_succ, List.getElem?_cons_zero]; rfl
                    case hf126 => kernel_rfl
                    case hr126 => kernel_rfl
                    case hw126 => rfl
                    case hy126 => (intro w hSw; (try dsimp only at hSw); go_simp; all_goals (first | done | with_reducible rfl))
                    case hQ126 => exact fun _ _ _ h => h
                    simp only [Act.put, List.setIfInBounds_toArray, List.set_cons_zero, List.set_cons_succ]
                    refine wpAnyH_done (by kernel_rfl) ?_ _
                    clear hS hth
                    go_wp2_with fail
                    go_meet
                    case rel => exact ⟨_, rfl, rfl, hbx, RB.out, HR9.out⟩
                · have HR6 := hid ((HR0.out).alloc (HR0.out).size (.cells #[.string ⟨#[]⟩, .int .i64 0, .string ⟨#[]⟩, .int .i64 0] 28))
                  have KX6 := hid (Blk.new wd #[.string ⟨#[]⟩, .int .i64 0, .string ⟨#[]⟩, .int .i64 0] 28)
                  have hbx : w1.heap.size ≤ wd.heap.size := (HR0.out).size
                  refine hK.out _ _ (SF.out _ HR6.out) (fun hS => ?_)
                  generalize hbxx : wd.heap.size = bx at *
                  generalize wd.alloc (.cells #[.string ⟨#[]⟩, .int .i64 0, .string ⟨#[]⟩, .int .i64 0] 28) = wx6 at *
                  clear hbxx
                  refine wpAnyH_ready (rs := [3]) (by kernel_rfl) (by simp) ?_
                  refine AllReadyH.cons (o := ?oi127) ?hi127 (fun K hK => ?step127) AllReadyH.nil
                  case hi127 => simp only [List.getElem?_toArray, List.getElem?_cons_succ, List.getElem?_cons_zero]; rfl
                  rw [if_pos (by rfl)]
                  go_simp
                  go_at_call 96
                  refine (CO.out _ (HB1.out.trans ((HR6.out).mono HB1.out.size))).mono ?_
                  rintro e wa7 ⟨Aq, fq, cq, rfl, hF, hb⟩
                  have HF7 := hid hF
                  have HR7 := hid ((HR6.out).trans (hb.mono (HR6.out).size))
                  have KX7 := hid ((KX6.out).to hb)
                  clear hb hF
                  refine hK.out _ _ (SF.out _ HR7.out) (fun hS => ?_)
                  refine wpAnyH_ready (rs := [5]) (by kernel_rfl) (by simp) ?_
                  refine AllReadyH.cons (o := ?oi128) ?hi128 (fun K hK => ?step128) AllReadyH.nil
                  case hi128 => simp only [List.getElem?_toArray, List.getElem?_cons_succ, List.getElem?_cons_zero]; rfl
                  rw [if_pos (by rfl)]
                  go_simp
                  go_at_call 95
                  refine (CF.out _ _ _ _ (HF7.out)).mono ?_
                  rintro e wa8 ⟨rfl, hb⟩
                  have HR8 := hid ((HR7.out).trans (hb.mono (HR7.out).size))
                  have KX8 := hid ((KX7.out).to hb)
                  clear hb
                  refine hK.out _ _ (SF.out _ HR8.out) (fun hS => ?_)
                  refine wpAnyH_take (i := 6) (oi := ?oi129) (v := ?v129) ?hi129 (by kernel_rfl) ?hf129 ?hr129 ?hQ129 (Or.inl ⟨?hw129, ?hy129⟩) (by assumption) ?rest129
                  case hi129 => simp only [List.getElem?_toArray, List.getElem?_cons_succ, List.getElem?_cons_zero]; rfl
                  case hf129 => kernel_rfl
                  case hr129 => kernel_rfl
                  case hw129 => rfl
                  case hy129 => (intro w hSw; (try dsimp only at hSw); go_simp; all_goals (first | done | with_reducible rfl))
                  case hQ129 => exact fun _ _ _ h => h
                  simp only [Act.put, List.setIfInBounds_toArray, List.set_cons_zero, List.set_cons_succ]
                  refine wpAnyH_take (i := 7) (oi := ?oi130) (v := ?v130) ?hi130 (by kernel_rfl) ?hf130 ?hr130 ?hQ130 (Or.inl ⟨?hw130, ?hy130⟩) (by assumption) ?rest130
                  case hi130 => simp only [List.getElem?_toArray, List.getElem?_cons_succ, List.getElem?_cons_zero]; rfl
                  case hf130 => kernel_rfl
                  case hr130 => kernel_rfl
                  case hw130 => rfl
                  case hy130 => (intro w hSw; (try dsimp only at hSw); go_simp; all_goals (first | done | with_reducible rfl))
                  case hQ130 => exact fun _ _ _ h => h
                  simp only [Act.put, List.setIfInBounds_toArray, List.set_cons_zero, List.set_cons_succ]
                  refine wpAnyH_take (i := 8) (oi := ?oi131) (v := ?v131) ?hi131 (by kernel_rfl) ?hf131 ?hr131 ?hQ131 (Or.inl ⟨?hw131, ?hy131⟩) (by assumption) ?rest131
                  case hi131 => simp only [List.getElem?_toArray, List.getElem?_cons_succ, List.getElem?_cons_zero]; rfl
                  case hf131 => kernel_rfl
                  case hr131 => kernel_rfl
                  case hw131 => rfl
                  case hy131 => (intro w hSw; (try dsimp only at hSw); go_simp; all_goals (first | done | with_reducible rfl))
                  case hQ131 => exact fun _ _ _ h => h
                  simp only [Act.put, List.setIfInBounds_toArray, List.set_cons_zero, List.set_cons_succ]
                  have HR9 := hid (below_setCellsX bx hbx [.string ⟨#[]⟩, .int .i64 0, .string ⟨#[]⟩, .int .i64 0] 0 _ (HR8.out))
                  have RB := hid ((KX8.out).storeX (vs := [.string ⟨#[]⟩, .int .i64 0, .string ⟨#[]⟩, .int .i64 0]) rfl)
                  have hth := (KX8.out).thereX
                  refine wpAnyH_ready (rs := [10]) (by kernel_rfl) (by simp) ?_
                  refine AllReadyH.cons (o := ?oi132) ?hi132 (fun K hK => ?step132) AllReadyH.nil
                  case hi132 => simp only [List.getElem?_toArray, List.getElem?_cons_succ, List.getElem?_cons_zero]; rfl
                  rw [if_pos (by rfl)]
                  refine wp_store_mid 28 (.tmp 6) (.tmp 57) rfl bx 0 #[.string ⟨#[]⟩, .int .i64 0, .string ⟨#[]⟩, .int .i64 0] (by rfl) (by rfl) hth Tryz.sizeRecordX (all_oneCell_toArray (cs := [.string ⟨#[]⟩, .int .i64 0, .string ⟨#[]⟩, .int .i64 0]) (List.all_eq_true.1 rfl)) ?_
                  refine hK.out _ _ (SF.out _ HR9.out) (fun hS => ?_)
                  simp only [Act.put, List.setIfInBounds_toArray, List.set_cons_zero, List.set_cons_succ]
                  refine wpAnyH_take (i := 11) (oi := ?oi133) (v := ?v133) ?hi133 (by kernel_rfl) ?hf133 ?hr133 ?hQ133 (Or.inl ⟨?hw133, ?hy133⟩) (by assumption) ?rest133
                  case hi133 => simp only [List.getElem?_toArray, List.getElem?_cons_succ, List.getElem?_cons_zero]; rfl
                  case hf133 => kernel_rfl
                  case hr133 => kernel_rfl
                  case hw133 => rfl
                  case hy133 => (intro w hSw; (try dsimp only at hSw); go_simp; all_goals (first | done | with_reducible rfl))
                  case hQ133 => exact fun _ _ _ h => h
                  simp only [Act.put, List.setIfInBounds_toArray, List.set_cons_zero, List.set_cons_succ]
                  refine wpAnyH_done (by kernel_rfl) ?_ _
                  clear hS hth
                  go_wp2_with fail
                  go_meet
                  case rel => exact ⟨_, rfl, rfl, hbx, RB.out, HR9.out⟩
              case rest =>
                obtain ⟨bx, rfl, rfl, hbx, KX, HRc⟩ := hcut
                have HBc := hid (HB1.out.trans (HRc.out.mono HB1.out.size))
                go_wp2_with fail
                go_ret
                exact ⟨_, rfl, by rw [HEa.out]; exact reason_lit wc 4 ⟨#[]⟩ _ _ (by simp) (HBc.out).size, (HBc.out).alloc (HBc.out).size _⟩
            | some g =>
              rw [hfl] at CF
              have CF := hid (fun (Aq : Option Addr) (fq cq : Nat) (W : World) (hF : Fs W W.heap.size fq (.slice Aq fq cq) (ownF L nm.data.toList)) => (show Calls _ _ _ _ (fun e w' => e = .returned (.tuple #[.agg #[.string nm, .int .i64 g, .string tx, .int .i64 sq], .bool true]) ∧ Below W.heap.size W w') from CF Aq fq cq W hF))
              have HE := hid (show Y = whyOf (outs H nm.data.toList tx.data.toList SP g) from W5.out g HOF.out (by omega) (by omega) hfl)
              obtain ⟨g1, g2⟩ := W6.out g HOF.out (by omega) (by omega) hfl
              clear hfl
              go_wp2_with fail
              go_cut [6, 7] from 50 (fun s6 s7 wc => ∃ bx, s6 = .pointer (some ⟨bx, 0, none⟩) ∧ s7 = .bool true ∧ w1.heap.size ≤ bx ∧ Hid (Blk wc bx [.string nm, .int .i64 g, .string tx, .int .i64 sq]) ∧ Hid (Below w1.heap.size w1 wc))
              case first =>
                have HR0 := hid ((Below.refl w1.heap.size w1).drew)
                have SF := hid (fun (W : World) (hR : Below w1.heap.size w1 W) => (show (fun w' : World => w'.cell? ⟨w.heap.size, 0, none⟩ = some (.slice (some ⟨b, o, none⟩) n1 k1) ∧ w'.cell? ⟨w.heap.size, 1, none⟩ = some (.slice A2 n2 k2) ∧ w'.cell? ⟨w.heap.size, 2, none⟩ = some (.int .i64 q) ∧ w'.cell? ⟨w.heap.size + 1, 0, none⟩ = some (.string nm) ∧ w'.cell? ⟨w.heap.size + 1, 1, none⟩ = some (.int .i64 lv) ∧ w'.cell? ⟨w.heap.size + 1, 2, none⟩ = some (.string tx) ∧ w'.cell? ⟨w.heap.size + 1, 3, none⟩ = some (.int .i64 sq)) W from ⟨((HT1.out.to hR).2 0 _ rfl).1, ((HT1.out.to hR).2 1 _ rfl).1, ((HT1.out.to hR).2 2 _ rfl).1, ((HK1.out.to hR).2 0 _ rfl).1, ((HK1.out.to hR).2 1 _ rfl).1, ((HK1.out.to hR).2 2 _ rfl).1, ((HK1.out.to hR).2 3 _ rfl).1⟩))
                refine wp_region_held_drew (S := fun w' : World => w'.cell? ⟨w.heap.size, 0, none⟩ = some (.slice (some ⟨b, o, none⟩) n1 k1) ∧ w'.cell? ⟨w.heap.size, 1, none⟩ = some (.slice A2 n2 k2) ∧ w'.cell? ⟨w.heap.size, 2, none⟩ = some (.int .i64 q) ∧ w'.cell? ⟨w.heap.size + 1, 0, none⟩ = some (.string nm) ∧ w'.cell? ⟨w.heap.size + 1, 1, none⟩ = some (.int .i64 lv) ∧ w'.cell? ⟨w.heap.size + 1, 2, none⟩ = some (.string tx) ∧ w'.cell? ⟨w.heap.size + 1, 3, none⟩ = some (.int .i64 sq)) (by kernel_rfl) (SF.out _ HR0.out) (fun hS => ?_)
                refine wpAnyH_take (i := 0) (oi := ?oi134) (v := ?v134) ?hi134 (by kernel_rfl) ?hf134 ?hr134 ?hQ134 (Or.inl ⟨?hw134, ?hy134⟩) (by assumption) ?rest134
                case hi134 => simp only [List.getElem?_toArray, List.getElem?_cons_succ, List.getElem?_cons_zero]; rfl
                case hf134 => kernel_rfl
                case hr134 => kernel_rfl
                case hw134 => rfl
                case hy134 => (intro w hSw; (try dsimp only at hSw); go_simp; all_goals (first | done | with_reducible rfl))
                case hQ134 => exact fun _ _ _ h => h
                simp only [Act.put, List.setIfInBounds_toArray, List.set_cons_zero, List.set_cons_succ]
                refine wpAnyH_take (i := 1) (oi := ?oi135) (v := ?v135) ?hi135 (by kernel_rfl) ?hf135 ?hr135 ?hQ135 (Or.inl ⟨?hw135, ?hy135⟩) (by assumption) ?rest135
                case hi135 => simp only [List.getElem?_toArray, List.getElem?_cons_succ, List.getElem?_cons_zero]; rfl
                case hf135 => kernel_rfl
                case hr135 => kernel_rfl
                case hw135 => rfl
                case hy135 => (intro w hSw; (try dsimp only at hSw); go_simp; all_goals (first | done | with_reducible rfl))
                case hQ135 => exact fun _ _ _ h => h
                simp only [Act.put, List.setIfInBounds_toArray, List.set_cons_zero, List.set_cons_succ]
                refine wpAnyH_take (i := 2) (oi := ?oi136) (v := ?v136) ?hi136 (by kernel_rfl) ?hf136 ?hr136 ?hQ136 (Or.inl ⟨?hw136, ?hy136⟩) (by assumption) ?rest136
                case hi136 => simp only [List.getElem?_toArray, List.getElem?_cons_succ, List.getElem?_cons_zero]; rfl
                case hf136 => kernel_rfl
                case hr136 => kernel_rfl
                case hw136 => rfl
                case hy136 => (intro w hSw; (try dsimp only at hSw); go_simp; all_goals (first | done | with_reducible rfl))
                case hQ136 => exact fun _ _ _ h => h
                simp only [Act.put, List.setIfInBounds_toArray, List.set_cons_zero, List.set_cons_succ]
                refine wpAnyH_take (i := 4) (oi := ?oi137) (v := ?v137) ?hi137 (by kernel_rfl) ?hf137 ?hr137 ?hQ137 (Or.inl ⟨?hw137, ?hy137⟩) (by assumption) ?rest137
                case hi137 => simp only [List.getElem?_toArray, List.getElem?_cons_succ, List.getElem?_cons_zero]; rfl
                case hf137 => kernel_rfl
                case hr137 => kernel_rfl
                case hw137 => rfl
                case hy137 => (intro w hSw; (try dsimp only at hSw); go_simp; all_goals (first | done | with_reducible rfl))
                case hQ137 => exact fun _ _ _ h => h
                simp only [Act.put, List.setIfInBounds_toArray, List.set_cons_zero, List.set_cons_succ]
                generalize hwd : w1.drew = wd at *
                clear hwd
                refine wpAnyH_ready (rs := [3, 9]) (by kernel_rfl) (by simp) ?_
                refine AllReadyH.cons (o := ?oi138) ?hi138 (fun K hK => ?stepA138) (AllReadyH.cons (o := ?oj138) ?hj138 (fun K hK => ?stepB138) AllReadyH.nil)
                case hi138 => simp only [List.getElem?_toArray, List.getElem?_cons_succ, List.getElem?_cons_zero]; rfl
                case hj138 => simp only [List.getElem?_toArray, List.getElem?_cons_succ, List.getElem?_cons_zero]; rfl
                all_goals rw [if_pos (by rfl)]
                all_goals go_simp
                · go_at_call 96
                  refine (CO.out _ (HB1.out.trans ((HR0.out).mono HB1.out.size))).mono ?_
                  rintro e wa1 ⟨Aq, fq, cq, rfl, hF, hb⟩
                  have HF1 := hid hF
                  have HR1 := hid ((HR0.out).trans (hb.mono (HR0.out).size))
                  clear hb hF
                  refine hK.out _ _ (SF.out _ HR1.out) (fun hS => ?_)
                  refine wpAnyH_ready (rs := [5, 9]) (by kernel_rfl) (by simp) ?_
                  refine AllReadyH.cons (o := ?oi139) ?hi139 (fun K hK => ?stepA139) (AllReadyH.cons (o := ?oj139) ?hj139 (fun K hK => ?stepB139) AllReadyH.nil)
                  case hi139 => simp only [List.getElem?_toArray, List.getElem?_cons_succ, List.getElem?_cons_zero]; rfl
                  case hj139 => simp only [List.getElem?_toArray, List.getElem?_cons_succ, List.getElem?_cons_zero]; rfl
                  all_goals rw [if_pos (by rfl)]
                  all_goals go_simp
                  · go_at_call 95
                    refine (CF.out _ _ _ _ (HF1.out)).mono ?_
                    rintro e wa2 ⟨rfl, hb⟩
                    have HR2 := hid ((HR1.out).trans (hb.mono (HR1.out).size))
                    clear hb
                    refine hK.out _ _ (SF.out _ HR2.out) (fun hS => ?_)
                    refine wpAnyH_take (i := 6) (oi := ?oi140) (v := ?v140) ?hi140 (by kernel_rfl) ?hf140 ?hr140 ?hQ140 (Or.inl ⟨?hw140, ?hy140⟩) (by assumption) ?rest140
                    case hi140 => simp only [List.getElem?_toArray, List.getElem?_cons_succ, List.getElem?_cons_zero]; rfl
                    case hf140 => kernel_rfl
                    case hr140 => kernel_rfl
                    case hw140 => rfl
                    case hy140 => (intro w hSw; (try dsimp only at hSw); go_simp; all_goals (first | done | with_reducible rfl))
                    case hQ140 => exact fun _ _ _ h => h
                    simp only [Act.put, List.setIfInBounds_toArray, List.set_cons_zero, List.set_cons_succ]
                    refine wpAnyH_take (i := 7) (oi := ?oi141) (v := ?v141) ?hi141 (by kernel_rfl) ?hf141 ?hr141 ?hQ141 (Or.inl ⟨?hw141, ?hy141⟩) (by assumption) ?rest141
                    case hi141 => simp only [List.getElem?_toArray, List.getElem?_cons_succ, List.getElem?_cons_zero]; rfl
                    case hf141 => kernel_rfl
                    case hr141 => kernel_rfl
                    case hw141 => rfl
                    case hy141 => (intro w hSw; (try dsimp only at hSw); go_simp; all_goals (first | done | with_reducible rfl))
                    case hQ141 => exact fun _ _ _ h => h
                    simp only [Act.put, List.setIfInBounds_toArray, List.set_cons_zero, List.set_cons_succ]
                    refine wpAnyH_take (i := 8) (oi := ?oi142) (v := ?v142) ?hi142 (by kernel_rfl) ?hf142 ?hr142 ?hQ142 (Or.inl ⟨?hw142, ?hy142⟩) (by assumption) ?rest142
                    case hi142 => simp only [List.getElem?_toArray, List.getElem?_cons_succ, List.getElem?_cons_zero]; rfl
                    case hf142 => kernel_rfl
                    case hr142 => kernel_rfl
                    case hw142 => rfl
                    case hy142 => (intro w hSw; (try dsimp only at hSw); go_simp; all_goals (first | done | with_reducible rfl))
                    case hQ142 => exact fun _ _ _ h => h
                    simp only [Act.put, List.setIfInBounds_toArray, List.set_cons_zero, List.set_cons_succ]
                    refine wpAnyH_ready (rs := [9]) (by kernel_rfl) (by simp) ?_
                    refine AllReadyH.cons (o := ?oi143) ?hi143 (fun K hK => ?step143) AllReadyH.nil
                    case hi143 => simp only [List.getElem?_toArray, List.getElem?_cons_succ, List.getElem?_cons_zero]; rfl
                    rw [if_pos (by rfl)]
                    go_simp
                    have HR3 := hid ((HR2.out).alloc (HR2.out).size (.cells #[.string ⟨#[]⟩, .int .i64 0, .string ⟨#[]⟩, .int .i64 0] 28))
                    have KX3 := hid (Blk.new wa2 #[.string ⟨#[]⟩, .int .i64 0, .string ⟨#[]⟩, .int .i64 0] 28)
                    have hbx : w1.heap.size ≤ wa2.heap.size := (HR2.out).size
                    refine hK.out _ _ (SF.out _ HR3.out) (fun hS => ?_)
                    generalize hbxx : wa2.heap.size = bx at *
                    generalize wa2.alloc (.cells #[.string ⟨#[]⟩, .int .i64 0, .string ⟨#[]⟩, .int .i64 0] 28) = wx3 at *
                    clear hbxx
                    have HR9 := hid (below_setCellsX bx hbx [.string nm, .int .i64 g, .string tx, .int .i64 sq] 0 _ (HR3.out))
                    have RB := hid ((KX3.out).storeX (vs := [.string nm, .int .i64 g, .string tx, .int .i64 sq]) rfl)
                    have hth := (KX3.out).thereX
                    refine wpAnyH_ready (rs := [10]) (by kernel_rfl) (by simp) ?_
                    refine AllReadyH.cons (o := ?oi144) ?hi144 (fun K hK => ?step144) AllReadyH.nil
                    case hi144 => simp only [List.getElem?_toArray, List.getElem?_cons_succ, List.getElem?_cons_zero]; rfl
                    rw [if_pos (by rfl)]
                    refine wp_store_mid 28 (.tmp 6) (.tmp 57) rfl bx 0 #[.string nm, .int .i64 g, .string tx, .int .i64 sq] (by rfl) (by rfl) hth Tryz.sizeRecordX (all_oneCell_toArray (cs := [.string nm, .int .i64 g, .string tx, .int .i64 sq]) (List.all_eq_true.1 rfl)) ?_
                    refine hK.out _ _ (SF.out _ HR9.out) (fun hS => ?_)
                    simp only [Act.put, List.setIfInBounds_toArray, List.set_cons_zero, List.set_cons_succ]
                    refine wpAnyH_take (i := 11) (oi := ?oi145) (v := ?v145) ?hi145 (by kernel_rfl) ?hf145 ?hr145 ?hQ145 (Or.inl ⟨?hw145, ?hy145⟩) (by assumption) ?rest145
                    case hi145 => simp only [List.getElem?_toArray, List.getElem?_cons_succ, List.getElem?_cons_zero]; rfl
                    case hf145 => kernel_rfl
                    case hr145 => kernel_rfl
                    case hw145 => rfl
                    case hy145 => (intro w hSw; (try dsimp only at hSw); go_simp; all_goals (first | done | with_reducible rfl))
                    case hQ145 => exact fun _ _ _ h => h
                    simp only [Act.put, List.setIfInBounds_toArray, List.set_cons_zero, List.set_cons_succ]
                    refine wpAnyH_done (by kernel_rfl) ?_ _
                    clear hS hth
                    go_wp2_with fail
                    go_meet
                    case rel => exact ⟨_, rfl, rfl, hbx, RB.out, HR9.out⟩
                  · have HR4 := hid ((HR1.out).alloc (HR1.out).size (.cells #[.string ⟨#[]⟩, .int .i64 0, .string ⟨#[]⟩, .int .i64 0] 28))
                    have KX4 := hid (Blk.new wa1 #[.string ⟨#[]⟩, .int .i64 0, .string ⟨#[]⟩, .int .i64 0] 28)
                    have hbx : w1.heap.size ≤ wa1.heap.size := (HR1.out).size
                    have HF4 := hid (show Fs (wa1.alloc (.cells #[.string ⟨#[]⟩, .int .i64 0, .string ⟨#[]⟩, .int .i64 0] 28)) (wa1.alloc (.cells #[.string ⟨#[]⟩, .int .i64 0, .string ⟨#[]⟩, .int .i64 0] 28)).heap.size fq (.slice Aq fq cq) (ownF L nm.data.toList) from ⟨((HF1.out).1.below ((Below.refl wa1.heap.size wa1).alloc (Nat.le_refl _) _) (Nat.le_refl _)).more (by simp), (HF1.out).2⟩)
                    refine hK.out _ _ (SF.out _ HR4.out) (fun hS => ?_)
                    generalize hbxx : wa1.heap.size = bx at *
                    generalize wa1.alloc (.cells #[.string ⟨#[]⟩, .int .i64 0, .string ⟨#[]⟩, .int .i64 0] 28) = wx4 at *
                    clear hbxx
                    refine wpAnyH_ready (rs := [5]) (by kernel_rfl) (by simp) ?_
                    refine AllReadyH.cons (o := ?oi146) ?hi146 (fun K hK => ?step146) AllReadyH.nil
                    case hi146 => simp only [List.getElem?_toArray, List.getElem?_cons_succ, List.getElem?_cons_zero]; rfl
                    rw [if_pos (by rfl)]
                    go_simp
                    go_at_call 95
                    refine (CF.out _ _ _ _ (HF4.out)).mono ?_
                    rintro e wa5 ⟨rfl, hb⟩
                    have HR5 := hid ((HR4.out).trans (hb.mono (HR4.out).size))
                    have KX5 := hid ((KX4.out).to hb)
                    clear hb
                    refine hK.out _ _ (SF.out _ HR5.out) (fun hS => ?_)
                    refine wpAnyH_take (i := 6) (oi := ?oi147) (v := ?v147) ?hi147 (by kernel_rfl) ?hf147 ?hr147 ?hQ147 (Or.inl ⟨?hw147, ?hy147⟩) (by assumption) ?rest147
                    case hi147 => simp only [List.getElem?_toArray, List.getElem?_cons_succ, List.getElem?_cons_zero]; rfl
                    case hf147 => kernel_rfl
                    case hr147 => kernel_rfl
                    case hw147 => rfl
                    case hy147 => (intro w hSw; (try dsimp only at hSw); go_simp; all_goals (first | done | with_reducible rfl))
                    case hQ147 => exact fun _ _ _ h => h
                    simp only [Act.put, List.setIfInBounds_toArray, List.set_cons_zero, List.set_cons_succ]
                    refine wpAnyH_take (i := 7) (oi := ?oi148) (v := ?v148) ?hi148 (by kernel_rfl) ?hf148 ?hr148 ?hQ148 (Or.inl ⟨?hw148, ?hy148⟩) (by assumption) ?rest148
                    case hi148 => simp only [List.getElem?_toArray, List.getElem?_cons_succ, List.getElem?_cons_zero]; rfl
                    case hf148 => kernel_rfl
                    case hr148 => kernel_rfl
                    case hw148 => rfl
                    case hy148 => (intro w hSw; (try dsimp only at hSw); go_simp; all_goals (first | done | with_reducible rfl))
                    case hQ148 => exact fun _ _ _ h => h
                    simp only [Act.put, List.setIfInBounds_toArray, List.set_cons_zero, List.set_cons_succ]
                    refine wpAnyH_take (i := 8) (oi := ?oi149) (v := ?v149) ?hi149 (by kernel_rfl) ?hf149 ?hr149 ?hQ149 (Or.inl ⟨?hw149, ?hy149⟩) (by assumption) ?rest149
                    case hi149 => simp only [List.getElem?_toArray, List.getElem?_cons_succ, List.getElem?_cons_zero]; rfl
                    case hf149 => kernel_rfl
                    case hr149 => kernel_rfl
                    case hw149 => rfl
                    case hy149 => (intro w hSw; (try dsimp only at hSw); go_simp; all_goals (first | done | with_reducible rfl))
                    case hQ149 => exact fun _ _ _ h => h
                    simp only [Act.put, List.setIfInBounds_toArray, List.set_cons_zero, List.set_cons_succ]
                    have HR9 := hid (below_setCellsX bx hbx [.string nm, .int .i64 g, .string tx, .int .i64 sq] 0 _ (HR5.out))
                    have RB := hid ((KX5.out).storeX (vs := [.string nm, .int .i64 g, .string tx, .int .i64 sq]) rfl)
                    have hth := (KX5.out).thereX
                    refine wpAnyH_ready (rs := [10]) (by kernel_rfl) (by simp) ?_
                    refine AllReadyH.cons (o := ?oi150) ?hi150 (fun K hK => ?step150) AllReadyH.nil
                    case hi150 => simp only [List.getElem?_toArray, List.getElem?_cons_succ, List.getElem?_cons_zero]; rfl
                    rw [if_pos (by rfl)]
                    refine wp_store_mid 28 (.tmp 6) (.tmp 57) rfl bx 0 #[.string nm, .int .i64 g, .string tx, .int .i64 sq] (by rfl) (by rfl) hth Tryz.sizeRecordX (all_oneCell_toArray (cs := [.string nm, .int .i64 g, .string tx, .int .i64 sq]) (List.all_eq_true.1 rfl)) ?_
                    refine hK.out _ _ (SF.out _ HR9.out) (fun hS => ?_)
                    simp only [Act.put, List.setIfInBounds_toArray, List.set_cons_zero, List.set_cons_succ]
                    refine wpAnyH_take (i := 11) (oi := ?oi151) (v := ?v151) ?hi151 (by kernel_rfl) ?hf151 ?hr151 ?hQ151 (Or.inl ⟨?hw151, ?hy151⟩) (by assumption) ?rest151
                    case hi151 => simp only [List.getElem?_toArray, List.getElem?_cons_succ, List.getElem?_cons_zero]; rfl
                    case hf151 => kernel_rfl
                    case hr151 => kernel_rfl
                    case hw151 => rfl
                    case hy151 => (intro w hSw; (try dsimp only at hSw); go_simp; all_goals (first | done | with_reducible rfl))
                    case hQ151 => exact fun _ _ _ h => h
                    simp only [Act.put, List.setIfInBounds_toArray, List.set_cons_zero, List.set_cons_succ]
                    refine wpAnyH_done (by kernel_rfl) ?_ _
                    clear hS hth
                    go_wp2_with fail
                    go_meet
                    case rel => exact ⟨_, rfl, rfl, hbx, RB.out, HR9.out⟩
                · have HR6 := hid ((HR0.out).alloc (HR0.out).size (.cells #[.string ⟨#[]⟩, .int .i64 0, .string ⟨#[]⟩, .int .i64 0] 28))
                  have KX6 := hid (Blk.new wd #[.string ⟨#[]⟩, .int .i64 0, .string ⟨#[]⟩, .int .i64 0] 28)
                  have hbx : w1.heap.size ≤ wd.heap.size := (HR0.out).size
                  refine hK.out _ _ (SF.out _ HR6.out) (fun hS => ?_)
                  generalize hbxx : wd.heap.size = bx at *
                  generalize wd.alloc (.cells #[.string ⟨#[]⟩, .int .i64 0, .string ⟨#[]⟩, .int .i64 0] 28) = wx6 at *
                  clear hbxx
                  refine wpAnyH_ready (rs := [3]) (by kernel_rfl) (by simp) ?_
                  refine AllReadyH.cons (o := ?oi152) ?hi152 (fun K hK => ?step152) AllReadyH.nil
                  case hi152 => simp only [List.getElem?_toArray, List.getElem?_cons_succ, List.getElem?_cons_zero]; rfl
                  rw [if_pos (by rfl)]
                  go_simp
                  go_at_call 96
                  refine (CO.out _ (HB1.out.trans ((HR6.out).mono HB1.out.size))).mono ?_
                  rintro e wa7 ⟨Aq, fq, cq, rfl, hF, hb⟩
                  have HF7 := hid hF
                  have HR7 := hid ((HR6.out).trans (hb.mono (HR6.out).size))
                  have KX7 := hid ((KX6.out).to hb)
                  clear hb hF
                  refine hK.out _ _ (SF.out _ HR7.out) (fun hS => ?_)
                  refine wpAnyH_ready (rs := [5]) (by kernel_rfl) (by simp) ?_
                  refine AllReadyH.cons (o := ?oi153) ?hi153 (fun K hK => ?step153) AllReadyH.nil
                  case hi153 => simp only [List.getElem?_toArray, List.getElem?_cons_succ, List.getElem?_cons_zero]; rfl
                  rw [if_pos (by rfl)]
                  go_simp
                  go_at_call 95
                  refine (CF.out _ _ _ _ (HF7.out)).mono ?_
                  rintro e wa8 ⟨rfl, hb⟩
                  have HR8 := hid ((HR7.out).trans (hb.mono (HR7.out).size))
                  have KX8 := hid ((KX7.out).to hb)
                  clear hb
                  refine hK.out _ _ (SF.out _ HR8.out) (fun hS => ?_)
                  refine wpAnyH_take (i := 6) (oi := ?oi154) (v := ?v154) ?hi154 (by kernel_rfl) ?hf154 ?hr154 ?hQ154 (Or.inl ⟨?hw154, ?hy154⟩) (by assumption) ?rest154
                  case hi154 => simp only [List.getElem?_toArray, List.getElem?_cons_succ, List.getElem?_cons_zero]; rfl
                  case hf154 => kernel_rfl
                  case hr154 => kernel_rfl
                  case hw154 => rfl
                  case hy154 => (intro w hSw; (try dsimp only at hSw); go_simp; all_goals (first | done | with_reducible rfl))
                  case hQ154 => exact fun _ _ _ h => h
                  simp only [Act.put, List.setIfInBounds_toArray, List.set_cons_zero, List.set_cons_succ]
                  refine wpAnyH_take (i := 7) (oi := ?oi155) (v := ?v155) ?hi155 (by kernel_rfl) ?hf155 ?hr155 ?hQ155 (Or.inl ⟨?hw155, ?hy155⟩) (by assumption) ?rest155
                  case hi155 => simp only [List.getElem?_toArray, List.getElem?_cons_succ, List.getElem?_cons_zero]; rfl
                  case hf155 => kernel_rfl
                  case hr155 => kernel_rfl
                  case hw155 => rfl
                  case hy155 => (intro w hSw; (try dsimp only at hSw); go_simp; all_goals (first | done | with_reducible rfl))
                  case hQ155 => exact fun _ _ _ h => h
                  simp only [Act.put, List.setIfInBounds_toArray, List.set_cons_zero, List.set_cons_succ]
                  refine wpAnyH_take (i := 8) (oi := ?oi156) (v := ?v156) ?hi156 (by kernel_rfl) ?hf156 ?hr156 ?hQ156 (Or.inl ⟨?hw156, ?hy156⟩) (by assumption) ?rest156
                  case hi156 => simp only [List.getElem?_toArray, List.getElem?_cons_succ, List.getElem?_cons_zero]; rfl
                  case hf156 => kernel_rfl
                  case hr156 => kernel_rfl
                  case hw156 => rfl
                  case hy156 => (intro w hSw; (try dsimp only at hSw); go_simp; all_goals (first | done | with_reducible rfl))
                  case hQ156 => exact fun _ _ _ h => h
                  simp only [Act.put, List.setIfInBounds_toArray, List.set_cons_zero, List.set_cons_succ]
                  have HR9 := hid (below_setCellsX bx hbx [.string nm, .int .i64 g, .string tx, .int .i64 sq] 0 _ (HR8.out))
                  have RB := hid ((KX8.out).storeX (vs := [.string nm, .int .i64 g, .string tx, .int .i64 sq]) rfl)
                  have hth := (KX8.out).thereX
                  refine wpAnyH_ready (rs := [10]) (by kernel_rfl) (by simp) ?_
                  refine AllReadyH.cons (o := ?oi157) ?hi157 (fun K hK => ?step157) AllReadyH.nil
                  case hi157 => simp only [List.getElem?_toArray, List.getElem?_cons_succ, List.getElem?_cons_zero]; rfl
                  rw [if_pos (by rfl)]
                  refine wp_store_mid 28 (.tmp 6) (.tmp 57) rfl bx 0 #[.string nm, .int .i64 g, .string tx, .int .i64 sq] (by rfl) (by rfl) hth Tryz.sizeRecordX (all_oneCell_toArray (cs := [.string nm, .int .i64 g, .string tx, .int .i64 sq]) (List.all_eq_true.1 rfl)) ?_
                  refine hK.out _ _ (SF.out _ HR9.out) (fun hS => ?_)
                  simp only [Act.put, List.setIfInBounds_toArray, List.set_cons_zero, List.set_cons_succ]
                  refine wpAnyH_take (i := 11) (oi := ?oi158) (v := ?v158) ?hi158 (by kernel_rfl) ?hf158 ?hr158 ?hQ158 (Or.inl ⟨?hw158, ?hy158⟩) (by assumption) ?rest158
                  case hi158 => simp only [List.getElem?_toArray, List.getElem?_cons_succ, List.getElem?_cons_zero]; rfl
                  case hf158 => kernel_rfl
                  case hr158 => kernel_rfl
                  case hw158 => rfl
                  case hy158 => (intro w hSw; (try dsimp only at hSw); go_simp; all_goals (first | done | with_reducible rfl))
                  case hQ158 => exact fun _ _ _ h => h
                  simp only [Act.put, List.setIfInBounds_toArray, List.set_cons_zero, List.set_cons_succ]
                  refine wpAnyH_done (by kernel_rfl) ?_ _
                  clear hS hth
                  go_wp2_with fail
                  go_meet
                  case rel => exact ⟨_, rfl, rfl, hbx, RB.out, HR9.out⟩
              case rest =>
                obtain ⟨bx, rfl, rfl, hbx, KX, HRc⟩ := hcut
                rename World => wq
                have HBc := hid (HB1.out.trans (HRc.out.mono HB1.out.size))
                have HTc := hid (HT1.out.to HRc.out)
                have HKc := hid (HK1.out.to HRc.out)
                have hbc : bx < wq.heap.size := KX.out.1
                have t0 := (HTc.out.2 0 _ rfl).1
                have t1 := (HTc.out.2 1 _ rfl).1
                have t2 := (HTc.out.2 2 _ rfl).1
                have d0 := (HKc.out.2 0 _ rfl).1
                go_wp2_with fail
                refine (CS.out _ HBc.out).mono ?_
                rintro e w5 ⟨vS, rfl, hoS, hb⟩
                obtain ⟨AS, cS, rfl, -, hcS⟩ := (Sl.of_own hoS).form
                unfold maxLen at hcS
                have HB5 := hid (HBc.out.trans (hb.mono HBc.out.size))
                have HX5 := hid (KX.out.to hb)
                have HT5 := hid (HTc.out.to hb)
                have HS5 := hid hoS
                have h5s : wq.heap.size ≤ w5.heap.size := hb.size
                have HA0 := hid (show ∀ z, (Value.slice (some ⟨w5.heap.size, 0, none⟩) 0 0).ownBlock = some z → (Value.slice AS sp.length cS).ownBlock ≠ some z from fun z hz e => by
                  have h1 := (hoS.lt z e).2
                  simp [Value.ownBlock] at hz
                  omega)
                have HX0 := hid (show ∀ z, (Value.slice (some ⟨w5.heap.size, 0, none⟩) 0 0).ownBlock = some z → z ≠ bx from fun z hz e => by
                  simp [Value.ownBlock] at hz
                  omega)
                have HO5 := hid (World.ownsRow_lit w5 #[] 0 (Nat.le_refl _) (by unfold maxLen; omega) (by simp) : (w5.alloc (.cells #[] 54)).ownsRow w5.heap.size 54 3 (.slice (some ⟨w5.heap.size, 0, none⟩) 0 0) 0 [])
                clear hb hoS t0 t1 t2 d0 HRc HB1 HT1 HK1
                generalize hns : sp.length = ns at *
                have HNS := hid hns
                have hns30 : ns ≤ 30 := HSL.out
                clear hns
                have x0 := (HX5.out.2 0 _ rfl).1
                have x1 := (HX5.out.2 1 _ rfl).1
                have x2 := (HX5.out.2 2 _ rfl).1
                have x3 := (HX5.out.2 3 _ rfl).1
                by_cases hsp : ns = 0
                · subst hsp
                  have hsp0 : sp = [] := List.length_eq_zero_iff.1 HNS.out
                  have HE2 := hid (show Y = [⟨if 30 ≤ g then 0 else 5, [], lastL⟩] by rw [HE.out, HSX.out, if_pos hsp0]; exact HLAST.out g)
                  clear hsp0
                  by_cases h30 : 30 ≤ g
                  · have HE3 := hid (show Y = [⟨0, [], lastL⟩] by rw [HE2.out, if_pos h30])
                    go_wp2_with fail
                    go_ret
                    exact ⟨_, rfl, by rw [HE3.out]; exact reason_lit w5 0 ⟨#[108, 97, 115, 116]⟩ _ _ (by simp) (HB5.out).size, (HB5.out).alloc (HB5.out).size _⟩
                  · have HE3 := hid (show Y = [⟨5, [], lastL⟩] by rw [HE2.out, if_neg h30])
                    go_wp2_with fail
                    go_ret
                    exact ⟨_, rfl, by rw [HE3.out]; exact reason_lit w5 5 ⟨#[108, 97, 115, 116]⟩ _ _ (by simp) (HB5.out).size, (HB5.out).alloc (HB5.out).size _⟩
                · have q1 : ((ns : Int) == 0) = false := by simp; omega
                  have HSP := hid (show SP = sp by rw [HSX.out, if_neg (fun e => hsp (by rw [← HNS.out, e]; rfl))])
                  go_wp2_with fail
                  go_loopw [9, 10] (fun ov iv wr => ∃ (k : Nat) (g' : Int) (x : List Rsn), iv = .int .i64 k ∧ k ≤ ns ∧ 1 ≤ g' ∧ g' ≤ 60 ∧ Hid (lvAfter H nm.data.toList tx.data.toList (sp.take k) g = g') ∧ Hid (x = whyOf (outs H nm.data.toList tx.data.toList (sp.take k) g)) ∧ x.length ≤ k ∧ Hid (wr.ownsRow w5.heap.size 54 3 ov x.length (x.flatMap rscells)) ∧ Hid (wr.ownsRow wq.heap.size 43 2 (.slice AS ns cS) ns (sp.flatMap spcells)) ∧ Hid (∀ z, ov.ownBlock = some z → (Value.slice AS ns cS).ownBlock ≠ some z) ∧ Hid (∀ z, ov.ownBlock = some z → z ≠ bx) ∧ Hid (Blk wr bx [.string nm, .int .i64 g', .string tx, .int .i64 sq]) ∧ Hid (Blk wr w.heap.size [.slice (some ⟨b, o, none⟩) n1 k1, .slice A2 n2 k2, .int .i64 q]) ∧ Hid (Below w.heap.size w wr) ∧ Hid (w5.heap.size ≤ wr.heap.size)) (fun _ iv _ => ns - (intOf iv).toNat)
                  case atStart => exact ⟨0, g, [], rfl, by omega, g1, g2, rfl, rfl, by simp, HO5.out, HS5.out.alloc _, HA0.out, HX0.out, HX5.out.alloc _, HT5.out.alloc _, HB5.out.alloc HB5.out.size _, by simp [Hid]⟩
                  case round =>
                    obtain ⟨k, g', x, rfl, hk, hp1, hp2, HLv, HXk, hxl, HO, HS, HA, HX, HKx, HT, HB, H5R⟩ := hrel
                    obtain ⟨Ax, cx, rfl, -, -⟩ := (Sl.of_own HO.out).form
                    clear x0 x1 x2 x3
                    by_cases hlt : k < ns
                    · obtain ⟨bs, os, lg, hd, eA, hbs, hx1, e0, e1⟩ := spcells_at (Sl.of_own HS.out) hlt
                      have hbs2 : wq.heap.size ≤ bs := (HS.out.lt bs (by rw [eA]; rfl)).1
                      obtain ⟨hh, hH, hnd, hnl⟩ := HHH.out
                      obtain ⟨j, hj, hix, hHj, hHn⟩ := hand_idx hH hnd (hld.out _ (List.mem_of_getElem? hx1))
                      have hn2 : hs.length = n2 := Sl.count hcells_len hh.1 (by omega)
                      obtain ⟨bh, oh, p, y, A4, fn, k4, eA2, hbh, hy, hps, hpz, hff, c0, c1, c2⟩ := handler_at (hh.below HB.out HBB.out) hH (k := j) (by omega)
                      obtain rfl : y = hOf H hd.data.toList := by rw [hHj] at hy; exact (Option.some.inj hy).symm
                      obtain rfl : p = hd := bytes_ext' (by rw [hps, hHn])
                      have hcap2 := hh.1.cap
                      unfold maxLen at hcap2
                      have HAT := hid (fun (W : World) (hW : Below w.heap.size w W) => (show Calls Tryz.prog 98 #[.slice A2 n2 k2, .string p] W (fun e w' => e = .returned (.int .i64 ((j : Nat) : Int)) ∧ w' = W) from by have h9 := AT.out p W hW; rw [hix] at h9; exact h9))
                      have HST := hid (why_step2 hx1 HLv.out)
                      have CFh := fun (W : World) (hW : Below w.heap.size w W) (hF : Fs W B fn (.slice A4 fn k4) (hOf H p.data.toList).fs) => specFiltered_c (.slice A4 fn k4) fn B (hOf H p.data.toList).fs nm tx g' sq W hF (Nat.le_trans HBB.out hW.size) (filtersOk_all (HFO.out _)) hnm htx hp1 hp2
                      have hjn : j < n2 := by omega
                      have HFf := hid hff
                      have hrg := askH_range (nm := nm.data.toList) (tx := tx.data.toList) (HFO.out p.data.toList) hp1 hp2
                      have K1 := hid (fun (hq : g' < (hOf H p.data.toList).lv) => askH_low (nm := nm.data.toList) (tx := tx.data.toList) hq)
                      have K2 := hid (fun (hq : ¬ g' < (hOf H p.data.toList).lv) (hf : filtL nm.data.toList tx.data.toList (hOf H p.data.toList).fs g' = none) => askH_drop hq hf)
                      have K3 := hid (fun (z : Int) (hq : ¬ g' < (hOf H p.data.toList).lv) (hf : filtL nm.data.toList tx.data.toList (hOf H p.data.toList).fs g' = some z) => askH_sent (q := z) hq hf)
                      clear hh hH hnd hnl hix hHj hHn hj hn2 hy hps hff hx1
                      subst eA
                      subst eA2
                      generalize (hOf H p.data.toList).lv = hl at *
                      have t0 := (HT.out.2 0 _ rfl).1
                      have t1 := (HT.out.2 1 _ rfl).1
                      have t2 := (HT.out.2 2 _ rfl).1
                      have hwr0 : w.heap.size < wr.heap.size := HT.out.1
                      have hbhr : bh < wr.heap.size := by have := HBB.out; omega
                      have s0 : (0 : Int) ≤ (k : Int) := by omega
                      have s1 : (k : Int) < (ns : Int) := by omega
                      have s2 : ((k : Int)).toNat = k := by simp
                      have r0 : (0 : Int) ≤ (j : Int) := by omega
                      have r1 : (j : Int) < (n2 : Int) := by omega
                      have r2 : ((j : Int)).toNat = j := by simp
                      go_wp2_with fail
                      have SG := hid (fun (W : World) (hR : Below wr.heap.size wr W) => (show (fun w' : World => w'.cell? ⟨w.heap.size, 0, none⟩ = some (.slice (some ⟨b, o, none⟩) n1 k1) ∧ w'.cell? ⟨w.heap.size, 1, none⟩ = some (.slice (some ⟨bh, oh, none⟩) n2 k2) ∧ w'.cell? ⟨w.heap.size, 2, none⟩ = some (.int .i64 q) ∧ w'.cell? ⟨bs, os + k * 2 + 1, none⟩ = some (.string p) ∧ w'.cell? ⟨bh, oh + j * 3, none⟩ = some (.string p) ∧ w'.cell? ⟨bh, oh + j * 3 + 1, none⟩ = some (.int .i64 hl) ∧ w'.cell? ⟨bh, oh + j * 3 + 2, none⟩ = some (.slice A4 fn k4)) W from ⟨((HT.out.to hR).2 0 _ rfl).1, ((HT.out.to hR).2 1 _ rfl).1, ((HT.out.to hR).2 2 _ rfl).1, (hR.cell (p := ⟨bs, _, none⟩) hbs).trans e1, (hR.cell (p := ⟨bh, _, none⟩) hbhr).trans c0, (hR.cell (p := ⟨bh, _, none⟩) hbhr).trans c1, (hR.cell (p := ⟨bh, _, none⟩) hbhr).trans c2⟩))
                      have E0 := hid e0
                      clear e0 e1 c0 c1 c2
                      go_cut [11] from 78 to 145 (fun hv wd => ∃ bz, hv = .pointer (some ⟨bz, 0, none⟩) ∧ wr.heap.size ≤ bz ∧ Hid (Blk wd bz [.string p, .int .i64 hl, .slice A4 fn k4]) ∧ Hid (Below wr.heap.size wr wd))
                      case first =>
                        have HR0 := hid ((Below.refl wr.heap.size wr).drew)
                        refine wp_region_held_drew (S := fun w' : World => w'.cell? ⟨w.heap.size, 0, none⟩ = some (.slice (some ⟨b, o, none⟩) n1 k1) ∧ w'.cell? ⟨w.heap.size, 1, none⟩ = some (.slice (some ⟨bh, oh, none⟩) n2 k2) ∧ w'.cell? ⟨w.heap.size, 2, none⟩ = some (.int .i64 q) ∧ w'.cell? ⟨bs, os + k * 2 + 1, none⟩ = some (.string p) ∧ w'.cell? ⟨bh, oh + j * 3, none⟩ = some (.string p) ∧ w'.cell? ⟨bh, oh + j * 3 + 1, none⟩ = some (.int .i64 hl) ∧ w'.cell? ⟨bh, oh + j * 3 + 2, none⟩ = some (.slice A4 fn k4)) (by kernel_rfl) (SG.out _ HR0.out) (fun hS => ?_)
                        refine wpAnyH_take (i := 0) (oi := ?oi159) (v := ?v159) ?hi159 (by kernel_rfl) ?hf159 ?hr159 ?hQ159 (Or.inl ⟨?hw159, ?hy159⟩) (by assumption) ?rest159
                        case hi159 => simp only [List.getElem?_toArray, List.getElem?_cons_succ, List.getElem?_cons_zero]; rfl
                        case hf159 => kernel_rfl
                        case hr159 => kernel_rfl
                        case hw159 => rfl
                        case hy159 => (intro w hSw; (try dsimp only at hSw); go_simp; all_goals (first | done | with_reducible rfl))
                        case hQ159 => exact fun _ _ _ h => h
                        simp only [Act.put, List.setIfInBounds_toArray, List.set_cons_zero, List.set_cons_succ]
                        refine wpAnyH_take (i := 1) (oi := ?oi160) (v := ?v160) ?hi160 (by kernel_rfl) ?hf160 ?hr160 ?hQ160 (Or.inl ⟨?hw160, ?hy160⟩) (by assumption) ?rest160
                        case hi160 => simp only [List.getElem?_toArray, List.getElem?_cons_succ, List.getElem?_cons_zero]; rfl
                        case hf160 => kernel_rfl
                        case hr160 => kernel_rfl
                        case hw160 => rfl
                        case hy160 => (intro w hSw; (try dsimp only at hSw); go_simp; all_goals (first | done | with_reducible rfl))
                        case hQ160 => exact fun _ _ _ h => h
                        simp only [Act.put, List.setIfInBounds_toArray, List.set_cons_zero, List.set_cons_succ]
                        refine wpAnyH_take (i := 2) (oi := ?oi161) (v := ?v161) ?hi161 (by kernel_rfl) ?hf161 ?hr161 ?hQ161 (Or.inl ⟨?hw161, ?hy161⟩) (by assumption) ?rest161
                        case hi161 => simp only [List.getElem?_toArray, List.getElem?_cons_succ, List.getElem?_cons_zero]; rfl
                        case hf161 => kernel_rfl
                        case hr161 => kernel_rfl
                        case hw161 => rfl
                        case hy161 => (intro w hSw; (try dsimp only at hSw); go_simp; all_goals (first | done | with_reducible rfl))
                        case hQ161 => exact fun _ _ _ h => h
                        simp only [Act.put, List.setIfInBounds_toArray, List.set_cons_zero, List.set_cons_succ]
                        refine wpAnyH_take (i := 3) (oi := ?oi162) (v := ?v162) ?hi162 (by kernel_rfl) ?hf162 ?hr162 ?hQ162 (Or.inl ⟨?hw162, ?hy162⟩) (by assumption) ?rest162
                        case hi162 => simp only [List.getElem?_toArray, List.getElem?_cons_succ, List.getElem?_cons_zero]; rfl
                        case hf162 => kernel_rfl
                        case hr162 => kernel_rfl
                        case hw162 => rfl
                        case hy162 => (intro w hSw; (try dsimp only at hSw); go_simp; all_goals (first | done | with_reducible rfl))
                        case hQ162 => exact fun _ _ _ h => h
                        simp only [Act.put, List.setIfInBounds_toArray, List.set_cons_zero, List.set_cons_succ]
                        refine wpAnyH_take (i := 4) (oi := ?oi163) (v := ?v163) ?hi163 (by kernel_rfl) ?hf163 ?hr163 ?hQ163 (Or.inl ⟨?hw163, ?hy163⟩) (by assumption) ?rest163
                        case hi163 => simp only [List.getElem?_toArray, List.getElem?_cons_succ, List.getElem?_cons_zero]; rfl
                        case hf163 => kernel_rfl
                        case hr163 => kernel_rfl
                        case hw163 => rfl
                        case hy163 => (intro w hSw; (try dsimp only at hSw); go_simp; all_goals (first | done | with_reducible rfl))
                        case hQ163 => exact fun _ _ _ h => h
                        simp only [Act.put, List.setIfInBounds_toArray, List.set_cons_zero, List.set_cons_succ]
                        refine wpAnyH_take (i := 5) (oi := ?oi164) (v := ?v164) ?hi164 (by kernel_rfl) ?hf164 ?hr164 ?hQ164 (Or.inl ⟨?hw164, ?hy164⟩) (by assumption) ?rest164
                        case hi164 => simp only [List.getElem?_toArray, List.getElem?_cons_succ, List.getElem?_cons_zero]; rfl
                        case hf164 => kernel_rfl
                        case hr164 => kernel_rfl
                        case hw164 => rfl
                        case hy164 => (intro w hSw; (try dsimp only at hSw); go_simp; all_goals (first | done | with_reducible rfl))
                        case hQ164 => exact fun _ _ _ h => h
                        simp only [Act.put, List.setIfInBounds_toArray, List.set_cons_zero, List.set_cons_succ]
                        refine wpAnyH_take (i := 6) (oi := ?oi165) (v := ?v165) ?hi165 (by kernel_rfl) ?hf165 ?hr165 ?hQ165 (Or.inl ⟨?hw165, ?hy165⟩) (by assumption) ?rest165
                        case hi165 => simp only [List.getElem?_toArray, List.getElem?_cons_succ, List.getElem?_cons_zero]; rfl
                        case hf165 => kernel_rfl
                        case hr165 => kernel_rfl
                        case hw165 => rfl
                        case hy165 => (intro w hSw; (try dsimp only at hSw); go_simp; all_goals (first | done | with_reducible rfl))
                        case hQ165 => exact fun _ _ _ h => h
                        simp only [Act.put, List.setIfInBounds_toArray, List.set_cons_zero, List.set_cons_succ]
                        refine wpAnyH_take (i := 7) (oi := ?oi166) (v := ?v166) ?hi166 (by kernel_rfl) ?hf166 ?hr166 ?hQ166 (Or.inl ⟨?hw166, ?hy166⟩) (by assumption) ?rest166
                        case hi166 => simp only [List.getElem?_toArray, List.getElem?_cons_succ, List.getElem?_cons_zero]; rfl
                        case hf166 => kernel_rfl
                        case hr166 => kernel_rfl
                        case hw166 => rfl
                        case hy166 => (intro w hSw; (try dsimp only at hSw); go_simp; all_goals (first | done | with_reducible rfl))
                        case hQ166 => exact fun _ _ _ h => h
                        simp only [Act.put, List.setIfInBounds_toArray, List.set_cons_zero, List.set_cons_succ]
                        refine wpAnyH_take (i := 8) (oi := ?oi167) (v := ?v167) ?hi167 (by kernel_rfl) ?hf167 ?hr167 ?hQ167 (Or.inl ⟨?hw167, ?hy167⟩) (by assumption) ?rest167
                        case hi167 => simp only [List.getElem?_toArray, List.getElem?_cons_succ, List.getElem?_cons_zero]; rfl
                        case hf167 => kernel_rfl
                        case hr167 => kernel_rfl
                        case hw167 => rfl
                        case hy167 => (intro w hSw; (try dsimp only at hSw); go_simp; all_goals (first | done | with_reducible rfl))
                        case hQ167 => exact fun _ _ _ h => h
                        simp only [Act.put, List.setIfInBounds_toArray, List.set_cons_zero, List.set_cons_succ]
                        generalize hwd : wr.drew = wd at *
                        clear hwd
                        refine wpAnyH_ready (rs := [9, 12]) (by kernel_rfl) (by simp) ?_
                        refine AllReadyH.cons (o := ?oi168) ?hi168 (fun K hK => ?stepA168) (AllReadyH.cons (o := ?oj168) ?hj168 (fun K hK => ?stepB168) AllReadyH.nil)
                        case hi168 => simp only [List.getElem?_toArray, List.getElem?_cons_succ, List.getElem?_cons_zero]; rfl
                        case hj168 => simp only [List.getElem?_toArray, List.getElem?_cons_succ, List.getElem?_cons_zero]; rfl
                        all_goals rw [if_pos (by rfl)]
                        all_goals go_simp
                        · go_at_call 98
                          refine (HAT.out _ (HB.out.trans (HR0.out.mono HB.out.size))).mono ?_
                          rintro e wa ⟨rfl, h9⟩
                          subst h9
                          refine hK.out _ _ (SG.out _ HR0.out) (fun hS => ?_)
                          refine wpAnyH_take (i := 10) (oi := ?oi169) (v := ?v169) ?hi169 (by kernel_rfl) ?hf169 ?hr169 ?hQ169 (Or.inl ⟨?hw169, ?hy169⟩) (by assumption) ?rest169
                          case hi169 => simp only [List.getElem?_toArray, List.getElem?_cons_succ, List.getElem?_cons_zero]; rfl
                          case hf169 => kernel_rfl
                          case hr169 => kernel_rfl
                          case hw169 => rfl
                          case hy169 => (intro w hSw; (try dsimp only at hSw); go_simp; all_goals (first | done | with_reducible rfl))
                          case hQ169 => exact fun _ _ _ h => h
                          simp only [Act.put, List.setIfInBounds_toArray, List.set_cons_zero, List.set_cons_succ]
                          refine wpAnyH_take (i := 11) (oi := ?oi170) (v := ?v170) ?hi170 (by kernel_rfl) ?hf170 ?hr170 ?hQ170 (Or.inl ⟨?hw170, ?hy170⟩) (by assumption) ?rest170
                          case hi170 => simp only [List.getElem?_toArray, List.getElem?_cons_succ, List.getElem?_cons_zero]; rfl
                          case hf170 => kernel_rfl
                          case hr170 => kernel_rfl
                          case hw170 => rfl
                          case hy170 => (intro w hSw; (try dsimp only at hSw); go_simp; all_goals (first | done | with_reducible rfl))
                          case hQ170 => exact fun _ _ _ h => h
                          simp only [Act.put, List.setIfInBounds_toArray, List.set_cons_zero, List.set_cons_succ]
                          refine wpAnyH_ready (rs := [12]) (by kernel_rfl) (by simp) ?_
                          refine AllReadyH.cons (o := ?oi171) ?hi171 (fun K hK => ?step171) AllReadyH.nil
                          case hi171 => simp only [List.getElem?_toArray, List.getElem?_cons_succ, List.getElem?_cons_zero]; rfl
                          rw [if_pos (by rfl)]
                          go_simp
                          have HR2 := hid (HR0.out.alloc HR0.out.size (.cells #[.string ⟨#[]⟩, .int .i64 0, .slice none 0 0] 47))
                          have KX9 := hid (Blk.new wa #[.string ⟨#[]⟩, .int .i64 0, .slice none 0 0] 47)
                          have hbz : wr.heap.size ≤ wa.heap.size := HR0.out.size
                          refine hK.out _ _ (SG.out _ HR2.out) (fun hS => ?_)
                          have HR3 := hid (below_setCellsX wa.heap.size hbz [.string p, .int .i64 hl, .slice A4 fn k4] 0 _ HR2.out)
                          have RB := hid (KX9.out.storeX (vs := [.string p, .int .i64 hl, .slice A4 fn k4]) rfl)
                          have hth := KX9.out.thereX
                          refine wpAnyH_ready (rs := [13]) (by kernel_rfl) (by simp) ?_
                          refine AllReadyH.cons (o := ?oi172) ?hi172 (fun K hK => ?step172) AllReadyH.nil
                          case hi172 => simp only [List.getElem?_toArray, List.getElem?_cons_succ, List.getElem?_cons_zero]; rfl
                          rw [if_pos (by rfl)]
                          refine wp_store_mid 47 (.tmp 11) (.tmp 95) rfl wa.heap.size 0 #[.string p, .int .i64 hl, .slice A4 fn k4] (by rfl) (by rfl) hth Tryz.sizeHandlerX (all_oneCell_toArray (cs := [.string p, .int .i64 hl, .slice A4 fn k4]) (List.all_eq_true.1 rfl)) ?_
                          refine hK.out _ _ (SG.out _ HR3.out) (fun hS => ?_)
                          simp only [Act.put, List.setIfInBounds_toArray, List.set_cons_zero, List.set_cons_succ]
                          refine wpAnyH_done (by kernel_rfl) ?_ _
                          clear hS hth
                          go_wp2_with fail
                          go_meet
                          case rel => exact ⟨_, rfl, hbz, RB.out, HR3.out⟩
                        · have HR1 := hid (HR0.out.alloc HR0.out.size (.cells #[.string ⟨#[]⟩, .int .i64 0, .slice none 0 0] 47))
                          have KX9 := hid (Blk.new wd #[.string ⟨#[]⟩, .int .i64 0, .slice none 0 0] 47)
                          have hbz : wr.heap.size ≤ wd.heap.size := HR0.out.size
                          refine hK.out _ _ (SG.out _ HR1.out) (fun hS => ?_)
                          refine wpAnyH_ready (rs := [9]) (by kernel_rfl) (by simp) ?_
                          refine AllReadyH.cons (o := ?oi173) ?hi173 (fun K hK => ?step173) AllReadyH.nil
                          case hi173 => simp only [List.getElem?_toArray, List.getElem?_cons_succ, List.getElem?_cons_zero]; rfl
                          rw [if_pos (by rfl)]
                          go_simp
                          go_at_call 98
                          refine (HAT.out _ (HB.out.trans (HR1.out.mono HB.out.size))).mono ?_
                          rintro e wa ⟨rfl, h9⟩
                          subst h9
                          refine hK.out _ _ (SG.out _ HR1.out) (fun hS => ?_)
                          refine wpAnyH_take (i := 10) (oi := ?oi174) (v := ?v174) ?hi174 (by kernel_rfl) ?hf174 ?hr174 ?hQ174 (Or.inl ⟨?hw174, ?hy174⟩) (by assumption) ?rest174
                          case hi174 => simp only [List.getElem?_toArray, List.getElem?_cons_succ, List.getElem?_cons_zero]; rfl
                          case hf174 => kernel_rfl
                          case hr174 => kernel_rfl
                          case hw174 => rfl
                          case hy174 => (intro w hSw; (try dsimp only at hSw); go_simp; all_goals (first | done | with_reducible rfl))
                          case hQ174 => exact fun _ _ _ h => h
                          simp only [Act.put, List.setIfInBounds_toArray, List.set_cons_zero, List.set_cons_succ]
                          refine wpAnyH_take (i := 11) (oi := ?oi175) (v := ?v175) ?hi175 (by kernel_rfl) ?hf175 ?hr175 ?hQ175 (Or.inl ⟨?hw175, ?hy175⟩) (by assumption) ?rest175
                          case hi175 => simp only [List.getElem?_toArray, List.getElem?_cons_succ, List.getElem?_cons_zero]; rfl
                          case hf175 => kernel_rfl
                          case hr175 => kernel_rfl
                          case hw175 => rfl
                          case hy175 => (intro w hSw; (try dsimp only at hSw); go_simp; all_goals (first | done | with_reducible rfl))
                          case hQ175 => exact fun _ _ _ h => h
                          simp only [Act.put, List.setIfInBounds_toArray, List.set_cons_zero, List.set_cons_succ]
                          have HR3 := hid (below_setCellsX wd.heap.size hbz [.string p, .int .i64 hl, .slice A4 fn k4] 0 _ HR1.out)
                          have RB := hid (KX9.out.storeX (vs := [.string p, .int .i64 hl, .slice A4 fn k4]) rfl)
                          have hth := KX9.out.thereX
                          refine wpAnyH_ready (rs := [13]) (by kernel_rfl) (by simp) ?_
                          refine AllReadyH.cons (o := ?oi176) ?hi176 (fun K hK => ?step176) AllReadyH.nil
                          case hi176 => simp only [List.getElem?_toArray, List.getElem?_cons_succ, List.getElem?_cons_zero]; rfl
                          rw [if_pos (by rfl)]
                          refine wp_store_mid 47 (.tmp 11) (.tmp 95) rfl wd.heap.size 0 #[.string p, .int .i64 hl, .slice A4 fn k4] (by rfl) (by rfl) hth Tryz.sizeHandlerX (all_oneCell_toArray (cs := [.string p, .int .i64 hl, .slice A4 fn k4]) (List.all_eq_true.1 rfl)) ?_
                          refine hK.out _ _ (SG.out _ HR3.out) (fun hS => ?_)
                          simp only [Act.put, List.setIfInBounds_toArray, List.set_cons_zero, List.set_cons_succ]
                          refine wpAnyH_done (by kernel_rfl) ?_ _
                          clear hS hth
                          go_wp2_with fail
                          go_meet
                          case rel => exact ⟨_, rfl, hbz, RB.out, HR3.out⟩
                      case rest =>
                        obtain ⟨bz, rfl, hbz, KZ, HRd⟩ := hcut
                        have HBd := hid (HB.out.trans (HRd.out.mono HB.out.size))
                        have HOd := hid (own_below HO.out HRd.out)
                        have HSd := hid (own_below HS.out HRd.out)
                        have HKd := hid (HKx.out.to HRd.out)
                        have HTd := hid (HT.out.to HRd.out)
                        have hbxr : bx < wr.heap.size := HKx.out.1
                        have e0d := hid ((HRd.out.cell (p := ⟨bs, os + k * 2, none⟩) hbs).trans E0.out)
                        have hAxz := hid (show ∀ z, (Value.slice Ax x.length cx).ownBlock = some z → z < wr.heap.size from fun z hz => (HO.out.lt z hz).2)
                        have hASz : bs < wr.heap.size := hbs
                        have h5r : w5.heap.size ≤ wr.heap.size := H5R.out
                        clear t0 t1 t2
                        have x0 := (HKd.out.2 0 _ rfl).1
                        have x1 := (HKd.out.2 1 _ rfl).1
                        have x2 := (HKd.out.2 2 _ rfl).1
                        have x3 := (HKd.out.2 3 _ rfl).1
                        have z0 := (KZ.out.2 0 _ rfl).1
                        have z1 := (KZ.out.2 1 _ rfl).1
                        have z2 := (KZ.out.2 2 _ rfl).1
                        have HF1 := CFh _ HBd.out ⟨HFf.out.1.below (HRd.out) (Nat.le_trans HBB.out HB.out.size), HFf.out.2⟩
                        have HX8 := hid h5r
                        cases hfi : filtL nm.data.toList tx.data.toList (hOf H p.data.toList).fs g' with
                        | none =>
                          rw [hfi] at HF1
                          have HF2 := hid (show Calls _ _ _ _ (fun e w' => e = .returned (.tuple #[.agg #[.string ⟨#[]⟩, .int .i64 0, .string ⟨#[]⟩, .int .i64 0], .bool false]) ∧ Below wc.heap.size wc w') from HF1)
                          by_cases hq : g' < hl
                          · rw [K1.out hq] at HST
                            clear HF1 CFh hfi
                            have HST' := hid (show whyOf (outs H nm.data.toList tx.data.toList (sp.take (k + 1)) g) = x ++ [⟨5, lg.data.toList, p.data.toList⟩] ∧ lvAfter H nm.data.toList tx.data.toList (sp.take (k + 1)) g = g' from ⟨by rw [HST.out.1, HXk.out]; first | done | rfl, HST.out.2⟩)
                            go_wp2_with fail
                            refine (HF2.out).mono ?_
                            rintro e w7 ⟨rfl, hb⟩
                            have HB7 := hid ((HBd.out.trans (hb.mono HBd.out.size)).alloc (Nat.le_trans HBd.out.size hb.size) (.cells #[.string ⟨#[]⟩, .int .i64 0, .string ⟨#[]⟩, .int .i64 0] 28))
                            have HO7 := hid ((own_below HOd.out hb).alloc (.cells #[.string ⟨#[]⟩, .int .i64 0, .string ⟨#[]⟩, .int .i64 0] 28))
                            have HS7 := hid ((own_below HSd.out hb).alloc (.cells #[.string ⟨#[]⟩, .int .i64 0, .string ⟨#[]⟩, .int .i64 0] 28))
                            have HK7 := hid ((HKd.out.to hb).alloc (.cells #[.string ⟨#[]⟩, .int .i64 0, .string ⟨#[]⟩, .int .i64 0] 28))
                            have HT7 := hid ((HTd.out.to hb).alloc (.cells #[.string ⟨#[]⟩, .int .i64 0, .string ⟨#[]⟩, .int .i64 0] 28))
                            have HZ7 := hid ((KZ.out.to hb).alloc (.cells #[.string ⟨#[]⟩, .int .i64 0, .string ⟨#[]⟩, .int .i64 0] 28))
                            have HN7 := hid (Blk.new w7 #[.string ⟨#[]⟩, .int .i64 0, .string ⟨#[]⟩, .int .i64 0] 28)
                            have hws : wr.heap.size ≤ wc.heap.size := HRd.out.size
                            have hb7 : wc.heap.size ≤ w7.heap.size := hb.size
                            have e7 := hid ((((Below.refl wc.heap.size wc).trans hb).alloc hb.size (.cells #[.string ⟨#[]⟩, .int .i64 0, .string ⟨#[]⟩, .int .i64 0] 28)).cell (p := ⟨bs, os + k * 2, none⟩) (show bs < _ by omega) |>.trans e0d.out)
                            have xx1 := ((HKd.out.to hb).2 1 _ rfl).1
                            have zz1 := ((KZ.out.to hb).2 1 _ rfl).1
                            have hbx7 : bx < w7.heap.size := by omega
                            have hbz7 : bz < w7.heap.size := (KZ.out.to hb).1
                            clear hb x0 x1 x2 x3 z0 z1 z2
                            go_wp2_with fail
                            clear xx1 zz1
                            generalize hw8 : w7.alloc (.cells #[.string ⟨#[]⟩, .int .i64 0, .string ⟨#[]⟩, .int .i64 0] 28) = w8 at *
                            have h8s : w8.heap.size = w7.heap.size + 1 := by rw [← hw8]; simp
                            generalize hbn : w7.heap.size = bn at *
                            have hwz : wr.heap.size ≤ bn := by omega
                            have h8b : w5.heap.size ≤ w8.heap.size := by have := HX8.out; omega
                            obtain ⟨v', w4, hrun, ho4, hg4, hloc⟩ := runReason w8 w5.heap.size _ x HO7.out 5 lg p (by omega) h8b
                            have HR9 := hid hrun
                            have HO9 := hid ho4
                            have H9 := hid ((below_of_grown hg4 h8b (own_lt HO7.out)).size)
                            have HA9 := hid (apart_kept HS7.out HA.out hg4 hloc)
                            have HB9 := hid (HB7.out.grown hg4 HB7.out.size (fun z hz => by have := own_lt HO7.out z hz; have := HB5.out.size; omega))
                            have HK9 := hid (HK7.out.kept hg4 (fun e => HX.out bx e.symm rfl))
                            have HT9 := hid (HT7.out.kept hg4 (fun e => by have := own_lt HO7.out _ e.symm; have := HT5.out.1; omega))
                            have HZ9 := hid (HZ7.out.kept hg4 (fun e => by have := hAxz.out bz e.symm; omega))
                            have HN9 := hid (HN7.out.kept hg4 (fun e => by have := hAxz.out bn e.symm; omega))
                            have HX9 := hid (show ∀ z, v'.ownBlock = some z → z ≠ bx from fun z hz => by
                              rcases hloc with h | h
                              · exact HX.out z (h.symm.trans hz)
                              · rw [h] at hz
                                have h1 : w8.heap.size + 1 = z := by simpa using hz
                                omega)
                            have hnebs : some bs ≠ (Value.slice Ax x.length cx).ownBlock := fun e => HA.out bs e.symm rfl
                            have hbs8 : bs < w8.heap.size := by omega
                            have hbz8 : bz < w8.heap.size := HZ7.out.1
                            have hbn8 : bn < w8.heap.size := HN7.out.1
                            have e9 : w4.cell? ⟨bs, os + k * 2, none⟩ = some (.string lg) := (World.cell?_of_block (a := ⟨bs, os + k * 2, none⟩) (by first | exact hg4.block bs hbs8 hnebs | exact hg4.block bs hbs8 (fun e => hnebs e.symm))).trans e7.out
                            have S4 := hid (And.intro e9 (HZ9.out.2 0 _ rfl).1)
                            have f0 := e7.out
                            have z0 := (HZ7.out.2 0 _ rfl).1

                            have HWB := hid (And.intro hbn (And.intro hw8 h8s))
                            clear e9 hrun ho4 hg4 hloc hnebs hw8 hbn h8s
                            go_wp2_with fail
                            go_region_held3 (fun w' => w'.cell? ⟨bs, os + k * 2, none⟩ = some (.string lg) ∧ w'.cell? ⟨bz, 0, none⟩ = some (.string p)) (first | go_keep | exact S4.out) (first | (refine wp_app rfl (by rfl) (by rfl) HR9.out ?_))
                            clear f0 z0
                            go_wp2_with fail
                            go_roundw
                            case rel => exact ⟨k + 1, g', _, by go_num, by omega, hp1, hp2, HST'.out.2, HST'.out.1.symm, by rw [List.length_append]; show x.length + 1 ≤ _; omega, HO9.out, HA9.out.1, HA9.out.2, HX9.out, HK9.out, HT9.out, HB9.out, Nat.le_trans h8b H9.out⟩
                            case measure => simp [intOf]; omega
                          · rw [K2.out (by omega) hfi] at HST
                            clear HF1 CFh hfi
                            have HST' := hid (show whyOf (outs H nm.data.toList tx.data.toList (sp.take (k + 1)) g) = x ++ [⟨6, lg.data.toList, p.data.toList⟩] ∧ lvAfter H nm.data.toList tx.data.toList (sp.take (k + 1)) g = g' from ⟨by rw [HST.out.1, HXk.out]; first | done | rfl, HST.out.2⟩)
                            go_wp2_with fail
                            refine (HF2.out).mono ?_
                            rintro e w7 ⟨rfl, hb⟩
                            have HB7 := hid ((HBd.out.trans (hb.mono HBd.out.size)).alloc (Nat.le_trans HBd.out.size hb.size) (.cells #[.string ⟨#[]⟩, .int .i64 0, .string ⟨#[]⟩, .int .i64 0] 28))
                            have HO7 := hid ((own_below HOd.out hb).alloc (.cells #[.string ⟨#[]⟩, .int .i64 0, .string ⟨#[]⟩, .int .i64 0] 28))
                            have HS7 := hid ((own_below HSd.out hb).alloc (.cells #[.string ⟨#[]⟩, .int .i64 0, .string ⟨#[]⟩, .int .i64 0] 28))
                            have HK7 := hid ((HKd.out.to hb).alloc (.cells #[.string ⟨#[]⟩, .int .i64 0, .string ⟨#[]⟩, .int .i64 0] 28))
                            have HT7 := hid ((HTd.out.to hb).alloc (.cells #[.string ⟨#[]⟩, .int .i64 0, .string ⟨#[]⟩, .int .i64 0] 28))
                            have HZ7 := hid ((KZ.out.to hb).alloc (.cells #[.string ⟨#[]⟩, .int .i64 0, .string ⟨#[]⟩, .int .i64 0] 28))
                            have HN7 := hid (Blk.new w7 #[.string ⟨#[]⟩, .int .i64 0, .string ⟨#[]⟩, .int .i64 0] 28)
                            have hws : wr.heap.size ≤ wc.heap.size := HRd.out.size
                            have hb7 : wc.heap.size ≤ w7.heap.size := hb.size
                            have e7 := hid ((((Below.refl wc.heap.size wc).trans hb).alloc hb.size (.cells #[.string ⟨#[]⟩, .int .i64 0, .string ⟨#[]⟩, .int .i64 0] 28)).cell (p := ⟨bs, os + k * 2, none⟩) (show bs < _ by omega) |>.trans e0d.out)
                            have xx1 := ((HKd.out.to hb).2 1 _ rfl).1
                            have zz1 := ((KZ.out.to hb).2 1 _ rfl).1
                            have hbx7 : bx < w7.heap.size := by omega
                            have hbz7 : bz < w7.heap.size := (KZ.out.to hb).1
                            clear hb x0 x1 x2 x3 z0 z1 z2
                            go_wp2_with fail
                            clear xx1 zz1
                            generalize hw8 : w7.alloc (.cells #[.string ⟨#[]⟩, .int .i64 0, .string ⟨#[]⟩, .int .i64 0] 28) = w8 at *
                            have h8s : w8.heap.size = w7.heap.size + 1 := by rw [← hw8]; simp
                            generalize hbn : w7.heap.size = bn at *
                            have hwz : wr.heap.size ≤ bn := by omega
                            have h8b : w5.heap.size ≤ w8.heap.size := by have := HX8.out; omega
                            obtain ⟨v', w4, hrun, ho4, hg4, hloc⟩ := runReason w8 w5.heap.size _ x HO7.out 6 lg p (by omega) h8b
                            have HR9 := hid hrun
                            have HO9 := hid ho4
                            have H9 := hid ((below_of_grown hg4 h8b (own_lt HO7.out)).size)
                            have HA9 := hid (apart_kept HS7.out HA.out hg4 hloc)
                            have HB9 := hid (HB7.out.grown hg4 HB7.out.size (fun z hz => by have := own_lt HO7.out z hz; have := HB5.out.size; omega))
                            have HK9 := hid (HK7.out.kept hg4 (fun e => HX.out bx e.symm rfl))
                            have HT9 := hid (HT7.out.kept hg4 (fun e => by have := own_lt HO7.out _ e.symm; have := HT5.out.1; omega))
                            have HZ9 := hid (HZ7.out.kept hg4 (fun e => by have := hAxz.out bz e.symm; omega))
                            have HN9 := hid (HN7.out.kept hg4 (fun e => by have := hAxz.out bn e.symm; omega))
                            have HX9 := hid (show ∀ z, v'.ownBlock = some z → z ≠ bx from fun z hz => by
                              rcases hloc with h | h
                              · exact HX.out z (h.symm.trans hz)
                              · rw [h] at hz
                                have h1 : w8.heap.size + 1 = z := by simpa using hz
                                omega)
                            have hnebs : some bs ≠ (Value.slice Ax x.length cx).ownBlock := fun e => HA.out bs e.symm rfl
                            have hbs8 : bs < w8.heap.size := by omega
                            have hbz8 : bz < w8.heap.size := HZ7.out.1
                            have hbn8 : bn < w8.heap.size := HN7.out.1
                            have e9 : w4.cell? ⟨bs, os + k * 2, none⟩ = some (.string lg) := (World.cell?_of_block (a := ⟨bs, os + k * 2, none⟩) (by first | exact hg4.block bs hbs8 hnebs | exact hg4.block bs hbs8 (fun e => hnebs e.symm))).trans e7.out
                            have S4 := hid (And.intro e9 (HZ9.out.2 0 _ rfl).1)
                            have f0 := e7.out
                            have z0 := (HZ7.out.2 0 _ rfl).1

                            have HWB := hid (And.intro hbn (And.intro hw8 h8s))
                            clear e9 hrun ho4 hg4 hloc hnebs hw8 hbn h8s
                            go_wp2_with fail
                            go_region_held3 (fun w' => w'.cell? ⟨bs, os + k * 2, none⟩ = some (.string lg) ∧ w'.cell? ⟨bz, 0, none⟩ = some (.string p)) (first | go_keep | exact S4.out) (first | (refine wp_app rfl (by rfl) (by rfl) HR9.out ?_))
                            clear f0 z0
                            go_wp2_with fail
                            go_roundw
                            case rel => exact ⟨k + 1, g', _, by go_num, by omega, hp1, hp2, HST'.out.2, HST'.out.1.symm, by rw [List.length_append]; show x.length + 1 ≤ _; omega, HO9.out, HA9.out.1, HA9.out.2, HX9.out, HK9.out, HT9.out, HB9.out, Nat.le_trans h8b H9.out⟩
                            case measure => simp [intOf]; omega
                        | some ga =>
                          rw [hfi] at HF1
                          have HF2 := hid (show Calls _ _ _ _ (fun e w' => e = .returned (.tuple #[.agg #[.string nm, .int .i64 ga, .string tx, .int .i64 sq], .bool true]) ∧ Below wc.heap.size wc w') from HF1)
                          by_cases hq : g' < hl
                          · rw [K1.out hq] at HST
                            clear HF1 CFh hfi
                            have HST' := hid (show whyOf (outs H nm.data.toList tx.data.toList (sp.take (k + 1)) g) = x ++ [⟨5, lg.data.toList, p.data.toList⟩] ∧ lvAfter H nm.data.toList tx.data.toList (sp.take (k + 1)) g = g' from ⟨by rw [HST.out.1, HXk.out]; first | done | rfl, HST.out.2⟩)
                            go_wp2_with fail
                            refine (HF2.out).mono ?_
                            rintro e w7 ⟨rfl, hb⟩
                            have HB7 := hid ((HBd.out.trans (hb.mono HBd.out.size)).alloc (Nat.le_trans HBd.out.size hb.size) (.cells #[.string nm, .int .i64 ga, .string tx, .int .i64 sq] 28))
                            have HO7 := hid ((own_below HOd.out hb).alloc (.cells #[.string nm, .int .i64 ga, .string tx, .int .i64 sq] 28))
                            have HS7 := hid ((own_below HSd.out hb).alloc (.cells #[.string nm, .int .i64 ga, .string tx, .int .i64 sq] 28))
                            have HK7 := hid ((HKd.out.to hb).alloc (.cells #[.string nm, .int .i64 ga, .string tx, .int .i64 sq] 28))
                            have HT7 := hid ((HTd.out.to hb).alloc (.cells #[.string nm, .int .i64 ga, .string tx, .int .i64 sq] 28))
                            have HZ7 := hid ((KZ.out.to hb).alloc (.cells #[.string nm, .int .i64 ga, .string tx, .int .i64 sq] 28))
                            have HN7 := hid (Blk.new w7 #[.string nm, .int .i64 ga, .string tx, .int .i64 sq] 28)
                            have hws : wr.heap.size ≤ wc.heap.size := HRd.out.size
                            have hb7 : wc.heap.size ≤ w7.heap.size := hb.size
                            have e7 := hid ((((Below.refl wc.heap.size wc).trans hb).alloc hb.size (.cells #[.string nm, .int .i64 ga, .string tx, .int .i64 sq] 28)).cell (p := ⟨bs, os + k * 2, none⟩) (show bs < _ by omega) |>.trans e0d.out)
                            have xx1 := ((HKd.out.to hb).2 1 _ rfl).1
                            have zz1 := ((KZ.out.to hb).2 1 _ rfl).1
                            have hbx7 : bx < w7.heap.size := by omega
                            have hbz7 : bz < w7.heap.size := (KZ.out.to hb).1
                            clear hb x0 x1 x2 x3 z0 z1 z2
                            go_wp2_with fail
                            clear xx1 zz1
                            generalize hw8 : w7.alloc (.cells #[.string nm, .int .i64 ga, .string tx, .int .i64 sq] 28) = w8 at *
                            have h8s : w8.heap.size = w7.heap.size + 1 := by rw [← hw8]; simp
                            generalize hbn : w7.heap.size = bn at *
                            have hwz : wr.heap.size ≤ bn := by omega
                            have h8b : w5.heap.size ≤ w8.heap.size := by have := HX8.out; omega
                            obtain ⟨v', w4, hrun, ho4, hg4, hloc⟩ := runReason w8 w5.heap.size _ x HO7.out 5 lg p (by omega) h8b
                            have HR9 := hid hrun
                            have HO9 := hid ho4
                            have H9 := hid ((below_of_grown hg4 h8b (own_lt HO7.out)).size)
                            have HA9 := hid (apart_kept HS7.out HA.out hg4 hloc)
                            have HB9 := hid (HB7.out.grown hg4 HB7.out.size (fun z hz => by have := own_lt HO7.out z hz; have := HB5.out.size; omega))
                            have HK9 := hid (HK7.out.kept hg4 (fun e => HX.out bx e.symm rfl))
                            have HT9 := hid (HT7.out.kept hg4 (fun e => by have := own_lt HO7.out _ e.symm; have := HT5.out.1; omega))
                            have HZ9 := hid (HZ7.out.kept hg4 (fun e => by have := hAxz.out bz e.symm; omega))
                            have HN9 := hid (HN7.out.kept hg4 (fun e => by have := hAxz.out bn e.symm; omega))
                            have HX9 := hid (show ∀ z, v'.ownBlock = some z → z ≠ bx from fun z hz => by
                              rcases hloc with h | h
                              · exact HX.out z (h.symm.trans hz)
                              · rw [h] at hz
                                have h1 : w8.heap.size + 1 = z := by simpa using hz
                                omega)
                            have hnebs : some bs ≠ (Value.slice Ax x.length cx).ownBlock := fun e => HA.out bs e.symm rfl
                            have hbs8 : bs < w8.heap.size := by omega
                            have hbz8 : bz < w8.heap.size := HZ7.out.1
                            have hbn8 : bn < w8.heap.size := HN7.out.1
                            have e9 : w4.cell? ⟨bs, os + k * 2, none⟩ = some (.string lg) := (World.cell?_of_block (a := ⟨bs, os + k * 2, none⟩) (by first | exact hg4.block bs hbs8 hnebs | exact hg4.block bs hbs8 (fun e => hnebs e.symm))).trans e7.out
                            have S4 := hid (And.intro e9 (HZ9.out.2 0 _ rfl).1)
                            have f0 := e7.out
                            have z0 := (HZ7.out.2 0 _ rfl).1

                            have HWB := hid (And.intro hbn (And.intro hw8 h8s))
                            clear e9 hrun ho4 hg4 hloc hnebs hw8 hbn h8s
                            go_wp2_with fail
                            go_region_held3 (fun w' => w'.cell? ⟨bs, os + k * 2, none⟩ = some (.string lg) ∧ w'.cell? ⟨bz, 0, none⟩ = some (.string p)) (first | go_keep | exact S4.out) (first | (refine wp_app rfl (by rfl) (by rfl) HR9.out ?_))
                            clear f0 z0
                            go_wp2_with fail
                            go_roundw
                            case rel => exact ⟨k + 1, g', _, by go_num, by omega, hp1, hp2, HST'.out.2, HST'.out.1.symm, by rw [List.length_append]; show x.length + 1 ≤ _; omega, HO9.out, HA9.out.1, HA9.out.2, HX9.out, HK9.out, HT9.out, HB9.out, Nat.le_trans h8b H9.out⟩
                            case measure => simp [intOf]; omega
                          · rw [K3.out ga (by omega) hfi] at HST hrg
                            obtain ⟨a1, a2⟩ : 1 ≤ ga ∧ ga ≤ 60 := hrg
                            clear HF1 CFh hfi
                            have HST' := hid (show whyOf (outs H nm.data.toList tx.data.toList (sp.take (k + 1)) g) = x ++ [⟨0, lg.data.toList, p.data.toList⟩] ∧ lvAfter H nm.data.toList tx.data.toList (sp.take (k + 1)) g = ga from ⟨by rw [HST.out.1, HXk.out]; first | done | rfl, HST.out.2⟩)
                            go_wp2_with fail
                            refine (HF2.out).mono ?_
                            rintro e w7 ⟨rfl, hb⟩
                            have HB7 := hid ((HBd.out.trans (hb.mono HBd.out.size)).alloc (Nat.le_trans HBd.out.size hb.size) (.cells #[.string nm, .int .i64 ga, .string tx, .int .i64 sq] 28))
                            have HO7 := hid ((own_below HOd.out hb).alloc (.cells #[.string nm, .int .i64 ga, .string tx, .int .i64 sq] 28))
                            have HS7 := hid ((own_below HSd.out hb).alloc (.cells #[.string nm, .int .i64 ga, .string tx, .int .i64 sq] 28))
                            have HK7 := hid ((HKd.out.to hb).alloc (.cells #[.string nm, .int .i64 ga, .string tx, .int .i64 sq] 28))
                            have HT7 := hid ((HTd.out.to hb).alloc (.cells #[.string nm, .int .i64 ga, .string tx, .int .i64 sq] 28))
                            have HZ7 := hid ((KZ.out.to hb).alloc (.cells #[.string nm, .int .i64 ga, .string tx, .int .i64 sq] 28))
                            have HN7 := hid (Blk.new w7 #[.string nm, .int .i64 ga, .string tx, .int .i64 sq] 28)
                            have hws : wr.heap.size ≤ wc.heap.size := HRd.out.size
                            have hb7 : wc.heap.size ≤ w7.heap.size := hb.size
                            have e7 := hid ((((Below.refl wc.heap.size wc).trans hb).alloc hb.size (.cells #[.string nm, .int .i64 ga, .string tx, .int .i64 sq] 28)).cell (p := ⟨bs, os + k * 2, none⟩) (show bs < _ by omega) |>.trans e0d.out)
                            have xx1 := ((HKd.out.to hb).2 1 _ rfl).1
                            have zz1 := ((KZ.out.to hb).2 1 _ rfl).1
                            have hbx7 : bx < w7.heap.size := by omega
                            have hbz7 : bz < w7.heap.size := (KZ.out.to hb).1
                            clear hb x0 x1 x2 x3 z0 z1 z2
                            go_wp2_with fail
                            clear xx1 zz1
                            generalize hw8 : w7.alloc (.cells #[.string nm, .int .i64 ga, .string tx, .int .i64 sq] 28) = w8 at *
                            have h8s : w8.heap.size = w7.heap.size + 1 := by rw [← hw8]; simp
                            generalize hbn : w7.heap.size = bn at *
                            have hwz : wr.heap.size ≤ bn := by omega
                            have h8b : w5.heap.size ≤ w8.heap.size := by have := HX8.out; omega
                            obtain ⟨v', w4, hrun, ho4, hg4, hloc⟩ := runReason w8 w5.heap.size _ x HO7.out 0 lg p (by omega) h8b
                            have HR9 := hid hrun
                            have HO9 := hid ho4
                            have H9 := hid ((below_of_grown hg4 h8b (own_lt HO7.out)).size)
                            have HA9 := hid (apart_kept HS7.out HA.out hg4 hloc)
                            have HB9 := hid (HB7.out.grown hg4 HB7.out.size (fun z hz => by have := own_lt HO7.out z hz; have := HB5.out.size; omega))
                            have HK9 := hid (HK7.out.kept hg4 (fun e => HX.out bx e.symm rfl))
                            have HT9 := hid (HT7.out.kept hg4 (fun e => by have := own_lt HO7.out _ e.symm; have := HT5.out.1; omega))
                            have HZ9 := hid (HZ7.out.kept hg4 (fun e => by have := hAxz.out bz e.symm; omega))
                            have HN9 := hid (HN7.out.kept hg4 (fun e => by have := hAxz.out bn e.symm; omega))
                            have HX9 := hid (show ∀ z, v'.ownBlock = some z → z ≠ bx from fun z hz => by
                              rcases hloc with h | h
                              · exact HX.out z (h.symm.trans hz)
                              · rw [h] at hz
                                have h1 : w8.heap.size + 1 = z := by simpa using hz
                                omega)
                            have hnebs : some bs ≠ (Value.slice Ax x.length cx).ownBlock := fun e => HA.out bs e.symm rfl
                            have hbs8 : bs < w8.heap.size := by omega
                            have hbz8 : bz < w8.heap.size := HZ7.out.1
                            have hbn8 : bn < w8.heap.size := HN7.out.1
                            have e9 : w4.cell? ⟨bs, os + k * 2, none⟩ = some (.string lg) := (World.cell?_of_block (a := ⟨bs, os + k * 2, none⟩) (by first | exact hg4.block bs hbs8 hnebs | exact hg4.block bs hbs8 (fun e => hnebs e.symm))).trans e7.out
                            have S4 := hid (And.intro e9 (And.intro (HZ9.out.2 0 _ rfl).1 (And.intro (HN9.out.2 0 _ rfl).1 (And.intro (HN9.out.2 1 _ rfl).1 (And.intro (HN9.out.2 2 _ rfl).1 (HN9.out.2 3 _ rfl).1)))))
                            have f0 := e7.out
                            have z0 := (HZ7.out.2 0 _ rfl).1
                            have y0 := (HN7.out.2 0 _ rfl).1
                            have y1 := (HN7.out.2 1 _ rfl).1
                            have y2 := (HN7.out.2 2 _ rfl).1
                            have y3 := (HN7.out.2 3 _ rfl).1
                            have HWB := hid (And.intro hbn (And.intro hw8 h8s))
                            clear e9 hrun ho4 hg4 hloc hnebs hw8 hbn h8s
                            go_wp2_with fail
                            go_region_held3 (fun w' => w'.cell? ⟨bs, os + k * 2, none⟩ = some (.string lg) ∧ w'.cell? ⟨bz, 0, none⟩ = some (.string p) ∧ w'.cell? ⟨bn, 0, none⟩ = some (.string nm) ∧ w'.cell? ⟨bn, 1, none⟩ = some (.int .i64 ga) ∧ w'.cell? ⟨bn, 2, none⟩ = some (.string tx) ∧ w'.cell? ⟨bn, 3, none⟩ = some (.int .i64 sq)) (first | go_keep | exact S4.out) (first | (refine wp_app rfl (by rfl) (by rfl) HR9.out ?_))
                            clear f0 z0 y0 y1 y2 y3
                            have y0 := (HN9.out.2 0 _ rfl).1
                            have y1 := (HN9.out.2 1 _ rfl).1
                            have y2 := (HN9.out.2 2 _ rfl).1
                            have y3 := (HN9.out.2 3 _ rfl).1
                            go_wp2_with (refine wpList_stB (P := Tryz.prog) rfl 28 _ _ rfl bx [.string nm, .int .i64 ga, .string tx, .int .i64 sq] rfl rfl _ HK9.out rfl (by kernel_rfl) (List.all_eq_true.1 rfl) ?_)
                            intro w6 hk6 hg6 hs6
                            have HK6 := hid hk6
                            have HO6 := hid (own_keptX HO9.out hg6 HX9.out)
                            have HS6 := hid (own_keptX HA9.out.1 hg6 (fun z hz => by have := own_lt HA9.out.1 z hz; omega))
                            have HT6 := hid (HT9.out.kept hg6 (by simp; omega))
                            have HB6 := hid (HB9.out.grown hg6 HB9.out.size (by intro z hz; cases hz; omega))
                            have H96 := hid (show w5.heap.size ≤ w6.heap.size by rw [hs6]; exact Nat.le_trans h8b H9.out)
                            clear hk6 hg6 hs6 y0 y1 y2 y3
                            go_wp2_with fail
                            go_roundw
                            case rel => exact ⟨k + 1, ga, _, by go_num, by omega, a1, a2, HST'.out.2, HST'.out.1.symm, by rw [List.length_append]; show x.length + 1 ≤ _; omega, HO6.out, HS6.out, HA9.out.2, HX9.out, HK6.out, HT6.out, HB6.out, H96.out⟩
                            case measure => simp [intOf]; omega
                    · have HF := hid (show Y = x by rw [HE.out, HSP.out, HXk.out, List.take_of_length_le (by have := HNS.out; omega)])
                      go_wp2_with fail
                      go_ret
                      exact ⟨_, rfl, by rw [HF.out]; exact own_base HO.out HB5.out.size, HB.out⟩
  · have hix : idxL (nsOf L) nm.data.toList = -1 := idx_miss _ _ hm
    rw [hix] at LA
    have HOF := hid (show offT L nm.data.toList = false by unfold offT; rw [decide_eq_false hm]; rfl)
    clear hix hm
    clear h hl hL hN hlen hn h0 hnd0 hnmm hh hH hnd hnl hn6 hz hr hnk
    go_enter Tryz.func56, Tryz.ntmps56
    by_cases hq : lv ≤ q
    · have HEa := hid (W2.out HOF.out hq)
      go_wp2_with (go_at_call 83; refine (LA.out).mono ?_; rintro e w2 ⟨rfl, hw2⟩; have hw2 := hw2.symm; subst hw2)
      go_ret
      exact ⟨_, rfl, by rw [HEa.out]; exact reason_lit ((w.alloc (.cells #[.slice (some ⟨b, o, none⟩) n1 k1, .slice A2 n2 k2, .int .i64 q] 26)).alloc (.cells #[.string nm, .int .i64 lv, .string tx, .int .i64 sq] 28)) 2 ⟨#[]⟩ _ _ (by simp) (HB0.out).size, (HB0.out).alloc (HB0.out).size _⟩
    · have SG6 := hid (fun (W : World) (hR : Below ((w.alloc (.cells #[.slice (some ⟨b, o, none⟩) n1 k1, .slice A2 n2 k2, .int .i64 q] 26)).alloc (.cells #[.string nm, .int .i64 lv, .string tx, .int .i64 sq] 28)).heap.size ((w.alloc (.cells #[.slice (some ⟨b, o, none⟩) n1 k1, .slice A2 n2 k2, .int .i64 q] 26)).alloc (.cells #[.string nm, .int .i64 lv, .string tx, .int .i64 sq] 28)) W) => (show (fun w' : World => w'.cell? ⟨w.heap.size, 0, none⟩ = some (.slice (some ⟨b, o, none⟩) n1 k1) ∧ w'.cell? ⟨w.heap.size, 1, none⟩ = some (.slice A2 n2 k2) ∧ w'.cell? ⟨w.heap.size, 2, none⟩ = some (.int .i64 q) ∧ w'.cell? ⟨w.heap.size + 1, 0, none⟩ = some (.string nm) ∧ w'.cell? ⟨w.heap.size + 1, 1, none⟩ = some (.int .i64 lv) ∧ w'.cell? ⟨w.heap.size + 1, 2, none⟩ = some (.string tx) ∧ w'.cell? ⟨w.heap.size + 1, 3, none⟩ = some (.int .i64 sq)) W from ⟨((HT0.out.to hR).2 0 _ rfl).1, ((HT0.out.to hR).2 1 _ rfl).1, ((HT0.out.to hR).2 2 _ rfl).1, ((HK0.out.to hR).2 0 _ rfl).1, ((HK0.out.to hR).2 1 _ rfl).1, ((HK0.out.to hR).2 2 _ rfl).1, ((HK0.out.to hR).2 3 _ rfl).1⟩))
      go_wp2_with (go_at_call 83; refine (LA.out).mono ?_; rintro e w2 ⟨rfl, hw2⟩; have hw2 := hw2.symm; subst hw2)
      generalize hw0 : (w.alloc (.cells #[.slice (some ⟨b, o, none⟩) n1 k1, .slice A2 n2 k2, .int .i64 q] 26)).alloc (.cells #[.string nm, .int .i64 lv, .string tx, .int .i64 sq] 28) = w0 at *
      have hw02 : w.heap.size + 1 + 1 ≤ w0.heap.size := by rw [← hw0]; simp
      clear hw0
      have HR60 := hid ((Below.refl w0.heap.size w0).drew)
      go_cut [40] from 41 (fun s40 wc => s40 = .bool (decide (lv < levelN (nsOf L) (lvAt L) nm.data.toList)) ∧ Hid (Below w0.heap.size w0 wc))
      case first =>
        refine wp_region_held_drew (S := fun w' : World => w'.cell? ⟨w.heap.size, 0, none⟩ = some (.slice (some ⟨b, o, none⟩) n1 k1) ∧ w'.cell? ⟨w.heap.size, 1, none⟩ = some (.slice A2 n2 k2) ∧ w'.cell? ⟨w.heap.size, 2, none⟩ = some (.int .i64 q) ∧ w'.cell? ⟨w.heap.size + 1, 0, none⟩ = some (.string nm) ∧ w'.cell? ⟨w.heap.size + 1, 1, none⟩ = some (.int .i64 lv) ∧ w'.cell? ⟨w.heap.size + 1, 2, none⟩ = some (.string tx) ∧ w'.cell? ⟨w.heap.size + 1, 3, none⟩ = some (.int .i64 sq)) (by kernel_rfl) (SG6.out _ HR60.out) (fun hS => ?_)
        refine wpAnyH_take (i := 0) (oi := ?oi177) (v := ?v177) ?hi177 (by kernel_rfl) ?hf177 ?hr177 ?hQ177 (Or.inl ⟨?hw177, ?hy177⟩) (by assumption) ?rest177
        case hi177 => simp only [List.getElem?_toArray, List.getElem?_cons_succ, List.getElem?_cons_zero]; rfl
        case hf177 => kernel_rfl
        case hr177 => kernel_rfl
        case hw177 => rfl
        case hy177 => (intro w hSw; (try dsimp only at hSw); go_simp; all_goals (first | done | with_reducible rfl))
        case hQ177 => exact fun _ _ _ h => h
        simp only [Act.put, List.setIfInBounds_toArray, List.set_cons_zero, List.set_cons_succ]
        refine wpAnyH_take (i := 1) (oi := ?oi178) (v := ?v178) ?hi178 (by kernel_rfl) ?hf178 ?hr178 ?hQ178 (Or.inl ⟨?hw178, ?hy178⟩) (by assumption) ?rest178
        case hi178 => simp only [List.getElem?_toArray, List.getElem?_cons_succ, List.getElem?_cons_zero]; rfl
        case hf178 => kernel_rfl
        case hr178 => kernel_rfl
        case hw178 => rfl
        case hy178 => (intro w hSw; (try dsimp only at hSw); go_simp; all_goals (first | done | with_reducible rfl))
        case hQ178 => exact fun _ _ _ h => h
        simp only [Act.put, List.setIfInBounds_toArray, List.set_cons_zero, List.set_cons_succ]
        refine wpAnyH_take (i := 2) (oi := ?oi179) (v := ?v179) ?hi179 (by kernel_rfl) ?hf179 ?hr179 ?hQ179 (Or.inl ⟨?hw179, ?hy179⟩) (by assumption) ?rest179
        case hi179 => simp only [List.getElem?_toArray, List.getElem?_cons_succ, List.getElem?_cons_zero]; rfl
        case hf179 => kernel_rfl
        case hr179 => kernel_rfl
        case hw179 => rfl
        case hy179 => (intro w hSw; (try dsimp only at hSw); go_simp; all_goals (first | done | with_reducible rfl))
        case hQ179 => exact fun _ _ _ h => h
        simp only [Act.put, List.setIfInBounds_toArray, List.set_cons_zero, List.set_cons_succ]
        refine wpAnyH_take (i := 3) (oi := ?oi180) (v := ?v180) ?hi180 (by kernel_rfl) ?hf180 ?hr180 ?hQ180 (Or.inl ⟨?hw180, ?hy180⟩) (by assumption) ?rest180
        case hi180 => simp only [List.getElem?_toArray, List.getElem?_cons_succ, List.getElem?_cons_zero]; rfl
        case hf180 => kernel_rfl
        case hr180 => kernel_rfl
        case hw180 => rfl
        case hy180 => (intro w hSw; (try dsimp only at hSw); go_simp; all_goals (first | done | with_reducible rfl))
        case hQ180 => exact fun _ _ _ h => h
        simp only [Act.put, List.setIfInBounds_toArray, List.set_cons_zero, List.set_cons_succ]
        refine wpAnyH_take (i := 4) (oi := ?oi181) (v := ?v181) ?hi181 (by kernel_rfl) ?hf181 ?hr181 ?hQ181 (Or.inl ⟨?hw181, ?hy181⟩) (by assumption) ?rest181
        case hi181 => simp only [List.getElem?_toArray, List.getElem?_cons_succ, List.getElem?_cons_zero]; rfl
        case hf181 => kernel_rfl
        case hr181 => kernel_rfl
        case hw181 => rfl
        case hy181 => (intro w hSw; (try dsimp only at hSw); go_simp; all_goals (first | done | with_reducible rfl))
        case hQ181 => exact fun _ _ _ h => h
        simp only [Act.put, List.setIfInBounds_toArray, List.set_cons_zero, List.set_cons_succ]
        refine wpAnyH_ready (rs := [5]) (by kernel_rfl) (by simp) ?_
        refine AllReadyH.cons (o := ?oi182) ?hi182 (fun K hK => ?step182) AllReadyH.nil
        case hi182 => simp only [List.getElem?_toArray, List.getElem?_cons_succ, List.getElem?_cons_zero]; rfl
        rw [if_pos (by rfl)]
        go_simp
        go_at_call 109
        refine (CEF.out _ (HB0.out.trans (HR60.out.mono HB0.out.size))).mono ?_
        rintro e w1 ⟨rfl, hb⟩
        have HR61 := hid (HR60.out.trans (hb.mono HR60.out.size))
        clear hb
        refine hK.out _ _ (SG6.out _ HR61.out) (fun hS => ?_)
        refine wpAnyH_take (i := 6) (oi := ?oi183) (v := ?v183) ?hi183 (by kernel_rfl) ?hf183 ?hr183 ?hQ183 (Or.inl ⟨?hw183, ?hy183⟩) (by assumption) ?rest183
        case hi183 => simp only [List.getElem?_toArray, List.getElem?_cons_succ, List.getElem?_cons_zero]; rfl
        case hf183 => kernel_rfl
        case hr183 => kernel_rfl
        case hw183 => rfl
        case hy183 => (intro w hSw; (try dsimp only at hSw); go_simp; all_goals (first | done | with_reducible rfl))
        case hQ183 => exact fun _ _ _ h => h
        simp only [Act.put, List.setIfInBounds_toArray, List.set_cons_zero, List.set_cons_succ]
        refine wpAnyH_take (i := 7) (oi := ?oi184) (v := ?v184) ?hi184 (by kernel_rfl) ?hf184 ?hr184 ?hQ184 (Or.inl ⟨?hw184, ?hy184⟩) (by assumption) ?rest184
        case hi184 => simp only [List.getElem?_toArray, List.getElem?_cons_succ, List.getElem?_cons_zero]; rfl
        case hf184 => kernel_rfl
        case hr184 => kernel_rfl
        case hw184 => rfl
        case hy184 => (intro w hSw; (try dsimp only at hSw); go_simp; all_goals (first | done | with_reducible rfl))
        case hQ184 => exact fun _ _ _ h => h
        simp only [Act.put, List.setIfInBounds_toArray, List.set_cons_zero, List.set_cons_succ]
        refine wpAnyH_done (by kernel_rfl) ?_ _
        clear hS
        go_wp2_with fail
        go_meet
        case rel => exact ⟨rfl, HR61.out⟩
      case rest =>
        obtain ⟨rfl, HR6⟩ := hcut
        rename World => w1
        have HB1 := hid (HB0.out.trans (HR6.out.mono HB0.out.size))
        have HT1 := hid (HT0.out.to HR6.out)
        have HK1 := hid (HK0.out.to HR6.out)
        have hw1 : w.heap.size + 1 < w1.heap.size := HK1.out.1
        have d0 := (HK1.out.2 0 _ rfl).1
        clear SG6 HR60 HR6 HB0 HT0 HK0 LA
        by_cases hle : lv < levelN (nsOf L) (lvAt L) nm.data.toList
        · have HEa := hid (W3.out HOF.out hq hle)
          rw [decide_eq_true hle]
          go_wp2_with fail
          go_ret
          exact ⟨_, rfl, by rw [HEa.out]; exact reason_lit w1 3 ⟨#[]⟩ _ _ (by simp) (HB1.out).size, (HB1.out).alloc (HB1.out).size _⟩
        · rw [decide_eq_false hle]
          cases hfl : filtL nm.data.toList tx.data.toList (ownF L nm.data.toList) lv with
          | none =>
            rw [hfl] at CF
            have CF := hid (fun (Aq : Option Addr) (fq cq : Nat) (W : World) (hF : Fs W W.heap.size fq (.slice Aq fq cq) (ownF L nm.data.toList)) => (show Calls _ _ _ _ (fun e w' => e = .returned (.tuple #[.agg #[.string ⟨#[]⟩, .int .i64 0, .string ⟨#[]⟩, .int .i64 0], .bool false]) ∧ Below W.heap.size W w') from CF Aq fq cq W hF))
            have HEa := hid (W4.out HOF.out (by omega) (by omega) hfl)
            clear hfl
            go_wp2_with fail
            go_cut [6, 7] from 50 (fun s6 s7 wc => ∃ bx, s6 = .pointer (some ⟨bx, 0, none⟩) ∧ s7 = .bool false ∧ w1.heap.size ≤ bx ∧ Hid (Blk wc bx [.string ⟨#[]⟩, .int .i64 0, .string ⟨#[]⟩, .int .i64 0]) ∧ Hid (Below w1.heap.size w1 wc))
            case first =>
              have HR0 := hid ((Below.refl w1.heap.size w1).drew)
              have SF := hid (fun (W : World) (hR : Below w1.heap.size w1 W) => (show (fun w' : World => w'.cell? ⟨w.heap.size, 0, none⟩ = some (.slice (some ⟨b, o, none⟩) n1 k1) ∧ w'.cell? ⟨w.heap.size, 1, none⟩ = some (.slice A2 n2 k2) ∧ w'.cell? ⟨w.heap.size, 2, none⟩ = some (.int .i64 q) ∧ w'.cell? ⟨w.heap.size + 1, 0, none⟩ = some (.string nm) ∧ w'.cell? ⟨w.heap.size + 1, 1, none⟩ = some (.int .i64 lv) ∧ w'.cell? ⟨w.heap.size + 1, 2, none⟩ = some (.string tx) ∧ w'.cell? ⟨w.heap.size + 1, 3, none⟩ = some (.int .i64 sq)) W from ⟨((HT1.out.to hR).2 0 _ rfl).1, ((HT1.out.to hR).2 1 _ rfl).1, ((HT1.out.to hR).2 2 _ rfl).1, ((HK1.out.to hR).2 0 _ rfl).1, ((HK1.out.to hR).2 1 _ rfl).1, ((HK1.out.to hR).2 2 _ rfl).1, ((HK1.out.to hR).2 3 _ rfl).1⟩))
              refine wp_region_held_drew (S := fun w' : World => w'.cell? ⟨w.heap.size, 0, none⟩ = some (.slice (some ⟨b, o, none⟩) n1 k1) ∧ w'.cell? ⟨w.heap.size, 1, none⟩ = some (.slice A2 n2 k2) ∧ w'.cell? ⟨w.heap.size, 2, none⟩ = some (.int .i64 q) ∧ w'.cell? ⟨w.heap.size + 1, 0, none⟩ = some (.string nm) ∧ w'.cell? ⟨w.heap.size + 1, 1, none⟩ = some (.int .i64 lv) ∧ w'.cell? ⟨w.heap.size + 1, 2, none⟩ = some (.string tx) ∧ w'.cell? ⟨w.heap.size + 1, 3, none⟩ = some (.int .i64 sq)) (by kernel_rfl) (SF.out _ HR0.out) (fun hS => ?_)
              refine wpAnyH_take (i := 0) (oi := ?oi185) (v := ?v185) ?hi185 (by kernel_rfl) ?hf185 ?hr185 ?hQ185 (Or.inl ⟨?hw185, ?hy185⟩) (by assumption) ?rest185
              case hi185 => simp only [List.getElem?_toArray, List.getElem?_cons_succ, List.getElem?_cons_zero]; rfl
              case hf185 => kernel_rfl
              case hr185 => kernel_rfl
              case hw185 => rfl
              case hy185 => (intro w hSw; (try dsimp only at hSw); go_simp; all_goals (first | done | with_reducible rfl))
              case hQ185 => exact fun _ _ _ h => h
              simp only [Act.put, List.setIfInBounds_toArray, List.set_cons_zero, List.set_cons_succ]
              refine wpAnyH_take (i := 1) (oi := ?oi186) (v := ?v186) ?hi186 (by kernel_rfl) ?hf186 ?hr186 ?hQ186 (Or.inl ⟨?hw186, ?hy186⟩) (by assumption) ?rest186
              case hi186 => simp only [List.getElem?_toArray, List.getElem?_cons_succ, List.getElem?_cons_zero]; rfl
              case hf186 => kernel_rfl
              case hr186 => kernel_rfl
              case hw186 => rfl
              case hy186 => (intro w hSw; (try dsimp only at hSw); go_simp; all_goals (first | done | with_reducible rfl))
              case hQ186 => exact fun _ _ _ h => h
              simp only [Act.put, List.setIfInBounds_toArray, List.set_cons_zero, List.set_cons_succ]
              refine wpAnyH_take (i := 2) (oi := ?oi187) (v := ?v187) ?hi187 (by kernel_rfl) ?hf187 ?hr187 ?hQ187 (Or.inl ⟨?hw187, ?hy187⟩) (by assumption) ?rest187
              case hi187 => simp only [List.getElem?_toArray, List.getElem?_cons_succ, List.getElem?_cons_zero]; rfl
              case hf187 => kernel_rfl
              case hr187 => kernel_rfl
              case hw187 => rfl
              case hy187 => (intro w hSw; (try dsimp only at hSw); go_simp; all_goals (first | done | with_reducible rfl))
              case hQ187 => exact fun _ _ _ h => h
              simp only [Act.put, List.setIfInBounds_toArray, List.set_cons_zero, List.set_cons_succ]
              refine wpAnyH_take (i := 4) (oi := ?oi188) (v := ?v188) ?hi188 (by kernel_rfl) ?hf188 ?hr188 ?hQ188 (Or.inl ⟨?hw188, ?hy188⟩) (by assumption) ?rest188
              case hi188 => simp only [List.getElem?_toArray, List.getElem?_cons_succ, List.getElem?_cons_zero]; rfl
              case hf188 => kernel_rfl
              case hr188 => kernel_rfl
              case hw188 => rfl
              case hy188 => (intro w hSw; (try dsimp only at hSw); go_simp; all_goals (first | done | with_reducible rfl))
              case hQ188 => exact fun _ _ _ h => h
              simp only [Act.put, List.setIfInBounds_toArray, List.set_cons_zero, List.set_cons_succ]
              generalize hwd : w1.drew = wd at *
              clear hwd
              refine wpAnyH_ready (rs := [3, 9]) (by kernel_rfl) (by simp) ?_
              refine AllReadyH.cons (o := ?oi189) ?hi189 (fun K hK => ?stepA189) (AllReadyH.cons (o := ?oj189) ?hj189 (fun K hK => ?stepB189) AllReadyH.nil)
              case hi189 => simp only [List.getElem?_toArray, List.getElem?_cons_succ, List.getElem?_cons_zero]; rfl
              case hj189 => simp only [List.getElem?_toArray, List.getElem?_cons_succ, List.getElem?_cons_zero]; rfl
              all_goals rw [if_pos (by rfl)]
              all_goals go_simp
              · go_at_call 96
                refine (CO.out _ (HB1.out.trans ((HR0.out).mono HB1.out.size))).mono ?_
                rintro e wa1 ⟨Aq, fq, cq, rfl, hF, hb⟩
                have HF1 := hid hF
                have HR1 := hid ((HR0.out).trans (hb.mono (HR0.out).size))
                clear hb hF
                refine hK.out _ _ (SF.out _ HR1.out) (fun hS => ?_)
                refine wpAnyH_ready (rs := [5, 9]) (by kernel_rfl) (by simp) ?_
                refine AllReadyH.cons (o := ?oi190) ?hi190 (fun K hK => ?stepA190) (AllReadyH.cons (o := ?oj190) ?hj190 (fun K hK => ?stepB190) AllReadyH.nil)
                case hi190 => simp only [List.getElem?_toArray, List.getElem?_cons_succ, List.getElem?_cons_zero]; rfl
                case hj190 => simp only [List.getElem?_toArray, List.getElem?_cons_succ, List.getElem?_cons_zero]; rfl
                all_goals rw [if_pos (by rfl)]
                all_goals go_simp
                · go_at_call 95
                  refine (CF.out _ _ _ _ (HF1.out)).mono ?_
                  rintro e wa2 ⟨rfl, hb⟩
                  have HR2 := hid ((HR1.out).trans (hb.mono (HR1.out).size))
                  clear hb
                  refine hK.out _ _ (SF.out _ HR2.out) (fun hS => ?_)
                  refine wpAnyH_take (i := 6) (oi := ?oi191) (v := ?v191) ?hi191 (by kernel_rfl) ?hf191 ?hr191 ?hQ191 (Or.inl ⟨?hw191, ?hy191⟩) (by assumption) ?rest191
                  case hi191 => simp only [List.getElem?_toArray, List.getElem?_cons_succ, List.getElem?_cons_zero]; rfl
                  case hf191 => kernel_rfl
                  case hr191 => kernel_rfl
                  case hw191 => rfl
                  case hy191 => (intro w hSw; (try dsimp only at hSw); go_simp; all_goals (first | done | with_reducible rfl))
                  case hQ191 => exact fun _ _ _ h => h
                  simp only [Act.put, List.setIfInBounds_toArray, List.set_cons_zero, List.set_cons_succ]
                  refine wpAnyH_take (i := 7) (oi := ?oi192) (v := ?v192) ?hi192 (by kernel_rfl) ?hf192 ?hr192 ?hQ192 (Or.inl ⟨?hw192, ?hy192⟩) (by assumption) ?rest192
                  case hi192 => simp only [List.getElem?_toArray, List.getElem?_cons_succ, List.getElem?_cons_zero]; rfl
                  case hf192 => kernel_rfl
                  case hr192 => kernel_rfl
                  case hw192 => rfl
                  case hy192 => (intro w hSw; (try dsimp only at hSw); go_simp; all_goals (first | done | with_reducible rfl))
                  case hQ192 => exact fun _ _ _ h => h
                  simp only [Act.put, List.setIfInBounds_toArray, List.set_cons_zero, List.set_cons_succ]
                  refine wpAnyH_take (i := 8) (oi := ?oi193) (v := ?v193) ?hi193 (by kernel_rfl) ?hf193 ?hr193 ?hQ193 (Or.inl ⟨?hw193, ?hy193⟩) (by assumption) ?rest193
                  case hi193 => simp only [List.getElem?_toArray, List.getElem?_cons_succ, List.getElem?_cons_zero]; rfl
                  case hf193 => kernel_rfl
                  case hr193 => kernel_rfl
                  case hw193 => rfl
                  case hy193 => (intro w hSw; (try dsimp only at hSw); go_simp; all_goals (first | done | with_reducible rfl))
                  case hQ193 => exact fun _ _ _ h => h
                  simp only [Act.put, List.setIfInBounds_toArray, List.set_cons_zero, List.set_cons_succ]
                  refine wpAnyH_ready (rs := [9]) (by kernel_rfl) (by simp) ?_
                  refine AllReadyH.cons (o := ?oi194) ?hi194 (fun K hK => ?step194) AllReadyH.nil
                  case hi194 => simp only [List.getElem?_toArray, List.getElem?_cons_succ, List.getElem?_cons_zero]; rfl
                  rw [if_pos (by rfl)]
                  go_simp
                  have HR3 := hid ((HR2.out).alloc (HR2.out).size (.cells #[.string ⟨#[]⟩, .int .i64 0, .string ⟨#[]⟩, .int .i64 0] 28))
                  have KX3 := hid (Blk.new wa2 #[.string ⟨#[]⟩, .int .i64 0, .string ⟨#[]⟩, .int .i64 0] 28)
                  have hbx : w1.heap.size ≤ wa2.heap.size := (HR2.out).size
                  refine hK.out _ _ (SF.out _ HR3.out) (fun hS => ?_)
                  generalize hbxx : wa2.heap.size = bx at *
                  generalize wa2.alloc (.cells #[.string ⟨#[]⟩, .int .i64 0, .string ⟨#[]⟩, .int .i64 0] 28) = wx3 at *
                  clear hbxx
                  have HR9 := hid (below_setCellsX bx hbx [.string ⟨#[]⟩, .int .i64 0, .string ⟨#[]⟩, .int .i64 0] 0 _ (HR3.out))
                  have RB := hid ((KX3.out).storeX (vs := [.string ⟨#[]⟩, .int .i64 0, .string ⟨#[]⟩, .int .i64 0]) rfl)
                  have hth := (KX3.out).thereX
                  refine wpAnyH_ready (rs := [10]) (by kernel_rfl) (by simp) ?_
                  refine AllReadyH.cons (o := ?oi195) ?hi195 (fun K hK => ?step195) AllReadyH.nil
                  case hi195 => simp only [List.getElem?_toArray, List.getElem?_cons_succ, List.getElem?_cons_zero]; rfl
                  rw [if_pos (by rfl)]
                  refine wp_store_mid 28 (.tmp 6) (.tmp 57) rfl bx 0 #[.string ⟨#[]⟩, .int .i64 0, .string ⟨#[]⟩, .int .i64 0] (by rfl) (by rfl) hth Tryz.sizeRecordX (all_oneCell_toArray (cs := [.string ⟨#[]⟩, .int .i64 0, .string ⟨#[]⟩, .int .i64 0]) (List.all_eq_true.1 rfl)) ?_
                  refine hK.out _ _ (SF.out _ HR9.out) (fun hS => ?_)
                  simp only [Act.put, List.setIfInBounds_toArray, List.set_cons_zero, List.set_cons_succ]
                  refine wpAnyH_take (i := 11) (oi := ?oi196) (v := ?v196) ?hi196 (by kernel_rfl) ?hf196 ?hr196 ?hQ196 (Or.inl ⟨?hw196, ?hy196⟩) (by assumption) ?rest196
                  case hi196 => simp only [List.getElem?_toArray, List.getElem?_cons_succ, List.getElem?_cons_zero]; rfl
                  case hf196 => kernel_rfl
                  case hr196 => kernel_rfl
                  case hw196 => rfl
                  case hy196 => (intro w hSw; (try dsimp only at hSw); go_simp; all_goals (first | done | with_reducible rfl))
                  case hQ196 => exact fun _ _ _ h => h
                  simp only [Act.put, List.setIfInBounds_toArray, List.set_cons_zero, List.set_cons_succ]
                  refine wpAnyH_done (by kernel_rfl) ?_ _
                  clear hS hth
                  go_wp2_with fail
                  go_meet
                  case rel => exact ⟨_, rfl, rfl, hbx, RB.out, HR9.out⟩
                · have HR4 := hid ((HR1.out).alloc (HR1.out).size (.cells #[.string ⟨#[]⟩, .int .i64 0, .string ⟨#[]⟩, .int .i64 0] 28))
                  have KX4 := hid (Blk.new wa1 #[.string ⟨#[]⟩, .int .i64 0, .string ⟨#[]⟩, .int .i64 0] 28)
                  have hbx : w1.heap.size ≤ wa1.heap.size := (HR1.out).size
                  have HF4 := hid (show Fs (wa1.alloc (.cells #[.string ⟨#[]⟩, .int .i64 0, .string ⟨#[]⟩, .int .i64 0] 28)) (wa1.alloc (.cells #[.string ⟨#[]⟩, .int .i64 0, .string ⟨#[]⟩, .int .i64 0] 28)).heap.size fq (.slice Aq fq cq) (ownF L nm.data.toList) from ⟨((HF1.out).1.below ((Below.refl wa1.heap.size wa1).alloc (Nat.le_refl _) _) (Nat.le_refl _)).more (by simp), (HF1.out).2⟩)
                  refine hK.out _ _ (SF.out _ HR4.out) (fun hS => ?_)
                  generalize hbxx : wa1.heap.size = bx at *
                  generalize wa1.alloc (.cells #[.string ⟨#[]⟩, .int .i64 0, .string ⟨#[]⟩, .int .i64 0] 28) = wx4 at *
                  clear hbxx
                  refine wpAnyH_ready (rs := [5]) (by kernel_rfl) (by simp) ?_
                  refine AllReadyH.cons (o := ?oi197) ?hi197 (fun K hK => ?step197) AllReadyH.nil
                  case hi197 => simp only [List.getElem?_toArray, List.getElem?_cons_succ, List.getElem?_cons_zero]; rfl
                  rw [if_pos (by rfl)]
                  go_simp
                  go_at_call 95
                  refine (CF.out _ _ _ _ (HF4.out)).mono ?_
                  rintro e wa5 ⟨rfl, hb⟩
                  have HR5 := hid ((HR4.out).trans (hb.mono (HR4.out).size))
                  have KX5 := hid ((KX4.out).to hb)
                  clear hb
                  refine hK.out _ _ (SF.out _ HR5.out) (fun hS => ?_)
                  refine wpAnyH_take (i := 6) (oi := ?oi198) (v := ?v198) ?hi198 (by kernel_rfl) ?hf198 ?hr198 ?hQ198 (Or.inl ⟨?hw198, ?hy198⟩) (by assumption) ?rest198
                  case hi198 => simp only [List.getElem?_toArray, List.getElem?_cons_succ, List.getElem?_cons_zero]; rfl
                  case hf198 => kernel_rfl
                  case hr198 => kernel_rfl
                  case hw198 => rfl
                  case hy198 => (intro w hSw; (try dsimp only at hSw); go_simp; all_goals (first | done | with_reducible rfl))
                  case hQ198 => exact fun _ _ _ h => h
                  simp only [Act.put, List.setIfInBounds_toArray, List.set_cons_zero, List.set_cons_succ]
                  refine wpAnyH_take (i := 7) (oi := ?oi199) (v := ?v199) ?hi199 (by kernel_rfl) ?hf199 ?hr199 ?hQ199 (Or.inl ⟨?hw199, ?hy199⟩) (by assumption) ?rest199
                  case hi199 => simp only [List.getElem?_toArray, List.getElem?_cons_succ, List.getElem?_cons_zero]; rfl
                  case hf199 => kernel_rfl
                  case hr199 => kernel_rfl
                  case hw199 => rfl
                  case hy199 => (intro w hSw; (try dsimp only at hSw); go_simp; all_goals (first | done | with_reducible rfl))
                  case hQ199 => exact fun _ _ _ h => h
                  simp only [Act.put, List.setIfInBounds_toArray, List.set_cons_zero, List.set_cons_succ]
                  refine wpAnyH_take (i := 8) (oi := ?oi200) (v := ?v200) ?hi200 (by kernel_rfl) ?hf200 ?hr200 ?hQ200 (Or.inl ⟨?hw200, ?hy200⟩) (by assumption) ?rest200
                  case hi200 => simp only [List.getElem?_toArray, List.getElem?_cons_succ, List.getElem?_cons_zero]; rfl
                  case hf200 => kernel_rfl
                  case hr200 => kernel_rfl
                  case hw200 => rfl
                  case hy200 => (intro w hSw; (try dsimp only at hSw); go_simp; all_goals (first | done | with_reducible rfl))
                  case hQ200 => exact fun _ _ _ h => h
                  simp only [Act.put, List.setIfInBounds_toArray, List.set_cons_zero, List.set_cons_succ]
                  have HR9 := hid (below_setCellsX bx hbx [.string ⟨#[]⟩, .int .i64 0, .string ⟨#[]⟩, .int .i64 0] 0 _ (HR5.out))
                  have RB := hid ((KX5.out).storeX (vs := [.string ⟨#[]⟩, .int .i64 0, .string ⟨#[]⟩, .int .i64 0]) rfl)
                  have hth := (KX5.out).thereX
                  refine wpAnyH_ready (rs := [10]) (by kernel_rfl) (by simp) ?_
                  refine AllReadyH.cons (o := ?oi201) ?hi201 (fun K hK => ?step201) AllReadyH.nil
                  case hi201 => simp only [List.getElem?_toArray, List.getElem?_cons_succ, List.getElem?_cons_zero]; rfl
                  rw [if_pos (by rfl)]
                  refine wp_store_mid 28 (.tmp 6) (.tmp 57) rfl bx 0 #[.string ⟨#[]⟩, .int .i64 0, .string ⟨#[]⟩, .int .i64 0] (by rfl) (by rfl) hth Tryz.sizeRecordX (all_oneCell_toArray (cs := [.string ⟨#[]⟩, .int .i64 0, .string ⟨#[]⟩, .int .i64 0]) (List.all_eq_true.1 rfl)) ?_
                  refine hK.out _ _ (SF.out _ HR9.out) (fun hS => ?_)
                  simp only [Act.put, List.setIfInBounds_toArray, List.set_cons_zero, List.set_cons_succ]
                  refine wpAnyH_take (i := 11) (oi := ?oi202) (v := ?v202) ?hi202 (by kernel_rfl) ?hf202 ?hr202 ?hQ202 (Or.inl ⟨?hw202, ?hy202⟩) (by assumption) ?rest202
                  case hi202 => simp only [List.getElem?_toArray, List.getElem?_cons_succ, List.getElem?_cons_zero]; rfl
                  case hf202 => kernel_rfl
                  case hr202 => kernel_rfl
                  case hw202 => rfl
                  case hy202 => (intro w hSw; (try dsimp only at hSw); go_simp; all_goals (first | done | with_reducible rfl))
                  case hQ202 => exact fun _ _ _ h => h
                  simp only [Act.put, List.setIfInBounds_toArray, List.set_cons_zero, List.set_cons_succ]
                  refine wpAnyH_done (by kernel_rfl) ?_ _
                  clear hS hth
                  go_wp2_with fail
                  go_meet
                  case rel => exact ⟨_, rfl, rfl, hbx, RB.out, HR9.out⟩
              · have HR6 := hid ((HR0.out).alloc (HR0.out).size (.cells #[.string ⟨#[]⟩, .int .i64 0, .string ⟨#[]⟩, .int .i64 0] 28))
                have KX6 := hid (Blk.new wd #[.string ⟨#[]⟩, .int .i64 0, .string ⟨#[]⟩, .int .i64 0] 28)
                have hbx : w1.heap.size ≤ wd.heap.size := (HR0.out).size
                refine hK.out _ _ (SF.out _ HR6.out) (fun hS => ?_)
                generalize hbxx : wd.heap.size = bx at *
                generalize wd.alloc (.cells #[.string ⟨#[]⟩, .int .i64 0, .string ⟨#[]⟩, .int .i64 0] 28) = wx6 at *
                clear hbxx
                refine wpAnyH_ready (rs := [3]) (by kernel_rfl) (by simp) ?_
                refine AllReadyH.cons (o := ?oi203) ?hi203 (fun K hK => ?step203) AllReadyH.nil
                case hi203 => simp only [List.getElem?_toArray, List.getElem?_cons_succ, List.getElem?_cons_zero]; rfl
                rw [if_pos (by rfl)]
                go_simp
                go_at_call 96
                refine (CO.out _ (HB1.out.trans ((HR6.out).mono HB1.out.size))).mono ?_
                rintro e wa7 ⟨Aq, fq, cq, rfl, hF, hb⟩
                have HF7 := hid hF
                have HR7 := hid ((HR6.out).trans (hb.mono (HR6.out).size))
                have KX7 := hid ((KX6.out).to hb)
                clear hb hF
                refine hK.out _ _ (SF.out _ HR7.out) (fun hS => ?_)
                refine wpAnyH_ready (rs := [5]) (by kernel_rfl) (by simp) ?_
                refine AllReadyH.cons (o := ?oi204) ?hi204 (fun K hK => ?step204) AllReadyH.nil
                case hi204 => simp only [List.getElem?_toArray, List.getElem?_cons_succ, List.getElem?_cons_zero]; rfl
                rw [if_pos (by rfl)]
                go_simp
                go_at_call 95
                refine (CF.out _ _ _ _ (HF7.out)).mono ?_
                rintro e wa8 ⟨rfl, hb⟩
                have HR8 := hid ((HR7.out).trans (hb.mono (HR7.out).size))
                have KX8 := hid ((KX7.out).to hb)
                clear hb
                refine hK.out _ _ (SF.out _ HR8.out) (fun hS => ?_)
                refine wpAnyH_take (i := 6) (oi := ?oi205) (v := ?v205) ?hi205 (by kernel_rfl) ?hf205 ?hr205 ?hQ205 (Or.inl ⟨?hw205, ?hy205⟩) (by assumption) ?rest205
                case hi205 => simp only [List.getElem?_toArray, List.getElem?_cons_succ, List.getElem?_cons_zero]; rfl
                case hf205 => kernel_rfl
                case hr205 => kernel_rfl
                case hw205 => rfl
                case hy205 => (intro w hSw; (try dsimp only at hSw); go_simp; all_goals (first | done | with_reducible rfl))
                case hQ205 => exact fun _ _ _ h => h
                simp only [Act.put, List.setIfInBounds_toArray, List.set_cons_zero, List.set_cons_succ]
                refine wpAnyH_take (i := 7) (oi := ?oi206) (v := ?v206) ?hi206 (by kernel_rfl) ?hf206 ?hr206 ?hQ206 (Or.inl ⟨?hw206, ?hy206⟩) (by assumption) ?rest206
                case hi206 => simp only [List.getElem?_toArray, List.getElem?_cons_succ, List.getElem?_cons_zero]; rfl
                case hf206 => kernel_rfl
                case hr206 => kernel_rfl
                case hw206 => rfl
                case hy206 => (intro w hSw; (try dsimp only at hSw); go_simp; all_goals (first | done | with_reducible rfl))
                case hQ206 => exact fun _ _ _ h => h
                simp only [Act.put, List.setIfInBounds_toArray, List.set_cons_zero, List.set_cons_succ]
                refine wpAnyH_take (i := 8) (oi := ?oi207) (v := ?v207) ?hi207 (by kernel_rfl) ?hf207 ?hr207 ?hQ207 (Or.inl ⟨?hw207, ?hy207⟩) (by assumption) ?rest207
                case hi207 => simp only [List.getElem?_toArray, List.getElem?_cons_succ, List.getElem?_cons_zero]; rfl
                case hf207 => kernel_rfl
                case hr207 => kernel_rfl
                case hw207 => rfl
                case hy207 => (intro w hSw; (try dsimp only at hSw); go_simp; all_goals (first | done | with_reducible rfl))
                case hQ207 => exact fun _ _ _ h => h
                simp only [Act.put, List.setIfInBounds_toArray, List.set_cons_zero, List.set_cons_succ]
                have HR9 := hid (below_setCellsX bx hbx [.string ⟨#[]⟩, .int .i64 0, .string ⟨#[]⟩, .int .i64 0] 0 _ (HR8.out))
                have RB := hid ((KX8.out).storeX (vs := [.string ⟨#[]⟩, .int .i64 0, .string ⟨#[]⟩, .int .i64 0]) rfl)
                have hth := (KX8.out).thereX
                refine wpAnyH_ready (rs := [10]) (by kernel_rfl) (by simp) ?_
                refine AllReadyH.cons (o := ?oi208) ?hi208 (fun K hK => ?step208) AllReadyH.nil
                case hi208 => simp only [List.getElem?_toArray, List.getElem?_cons_succ, List.getElem?_cons_zero]; rfl
                rw [if_pos (by rfl)]
                refine wp_store_mid 28 (.tmp 6) (.tmp 57) rfl bx 0 #[.string ⟨#[]⟩, .int .i64 0, .string ⟨#[]⟩, .int .i64 0] (by rfl) (by rfl) hth Tryz.sizeRecordX (all_oneCell_toArray (cs := [.string ⟨#[]⟩, .int .i64 0, .string ⟨#[]⟩, .int .i64 0]) (List.all_eq_true.1 rfl)) ?_
                refine hK.out _ _ (SF.out _ HR9.out) (fun hS => ?_)
                simp only [Act.put, List.setIfInBounds_toArray, List.set_cons_zero, List.set_cons_succ]
                refine wpAnyH_take (i := 11) (oi := ?oi209) (v := ?v209) ?hi209 (by kernel_rfl) ?hf209 ?hr209 ?hQ209 (Or.inl ⟨?hw209, ?hy209⟩) (by assumption) ?rest209
                case hi209 => simp only [List.getElem?_toArray, List.getElem?_cons_succ, List.getElem?_cons_zero]; rfl
                case hf209 => kernel_rfl
                case hr209 => kernel_rfl
                case hw209 => rfl
                case hy209 => (intro w hSw; (try dsimp only at hSw); go_simp; all_goals (first | done | with_reducible rfl))
                case hQ209 => exact fun _ _ _ h => h
                simp only [Act.put, List.setIfInBounds_toArray, List.set_cons_zero, List.set_cons_succ]
                refine wpAnyH_done (by kernel_rfl) ?_ _
                clear hS hth
                go_wp2_with fail
                go_meet
                case rel => exact ⟨_, rfl, rfl, hbx, RB.out, HR9.out⟩
            case rest =>
              obtain ⟨bx, rfl, rfl, hbx, KX, HRc⟩ := hcut
              have HBc := hid (HB1.out.trans (HRc.out.mono HB1.out.size))
              go_wp2_with fail
              go_ret
              exact ⟨_, rfl, by rw [HEa.out]; exact reason_lit wc 4 ⟨#[]⟩ _ _ (by simp) (HBc.out).size, (HBc.out).alloc (HBc.out).size _⟩
          | some g =>
            rw [hfl] at CF
            have CF := hid (fun (Aq : Option Addr) (fq cq : Nat) (W : World) (hF : Fs W W.heap.size fq (.slice Aq fq cq) (ownF L nm.data.toList)) => (show Calls _ _ _ _ (fun e w' => e = .returned (.tuple #[.agg #[.string nm, .int .i64 g, .string tx, .int .i64 sq], .bool true]) ∧ Below W.heap.size W w') from CF Aq fq cq W hF))
            have HE := hid (show Y = whyOf (outs H nm.data.toList tx.data.toList SP g) from W5.out g HOF.out (by omega) (by omega) hfl)
            obtain ⟨g1, g2⟩ := W6.out g HOF.out (by omega) (by omega) hfl
            clear hfl
            go_wp2_with fail
            go_cut [6, 7] from 50 (fun s6 s7 wc => ∃ bx, s6 = .pointer (some ⟨bx, 0, none⟩) ∧ s7 = .bool true ∧ w1.heap.size ≤ bx ∧ Hid (Blk wc bx [.string nm, .int .i64 g, .string tx, .int .i64 sq]) ∧ Hid (Below w1.heap.size w1 wc))
            case first =>
              have HR0 := hid ((Below.refl w1.heap.size w1).drew)
              have SF := hid (fun (W : World) (hR : Below w1.heap.size w1 W) => (show (fun w' : World => w'.cell? ⟨w.heap.size, 0, none⟩ = some (.slice (some ⟨b, o, none⟩) n1 k1) ∧ w'.cell? ⟨w.heap.size, 1, none⟩ = some (.slice A2 n2 k2) ∧ w'.cell? ⟨w.heap.size, 2, none⟩ = some (.int .i64 q) ∧ w'.cell? ⟨w.heap.size + 1, 0, none⟩ = some (.string nm) ∧ w'.cell? ⟨w.heap.size + 1, 1, none⟩ = some (.int .i64 lv) ∧ w'.cell? ⟨w.heap.size + 1, 2, none⟩ = some (.string tx) ∧ w'.cell? ⟨w.heap.size + 1, 3, none⟩ = some (.int .i64 sq)) W from ⟨((HT1.out.to hR).2 0 _ rfl).1, ((HT1.out.to hR).2 1 _ rfl).1, ((HT1.out.to hR).2 2 _ rfl).1, ((HK1.out.to hR).2 0 _ rfl).1, ((HK1.out.to hR).2 1 _ rfl).1, ((HK1.out.to hR).2 2 _ rfl).1, ((HK1.out.to hR).2 3 _ rfl).1⟩))
              refine wp_region_held_drew (S := fun w' : World => w'.cell? ⟨w.heap.size, 0, none⟩ = some (.slice (some ⟨b, o, none⟩) n1 k1) ∧ w'.cell? ⟨w.heap.size, 1, none⟩ = some (.slice A2 n2 k2) ∧ w'.cell? ⟨w.heap.size, 2, none⟩ = some (.int .i64 q) ∧ w'.cell? ⟨w.heap.size + 1, 0, none⟩ = some (.string nm) ∧ w'.cell? ⟨w.heap.size + 1, 1, none⟩ = some (.int .i64 lv) ∧ w'.cell? ⟨w.heap.size + 1, 2, none⟩ = some (.string tx) ∧ w'.cell? ⟨w.heap.size + 1, 3, none⟩ = some (.int .i64 sq)) (by kernel_rfl) (SF.out _ HR0.out) (fun hS => ?_)
              refine wpAnyH_take (i := 0) (oi := ?oi210) (v := ?v210) ?hi210 (by kernel_rfl) ?hf210 ?hr210 ?hQ210 (Or.inl ⟨?hw210, ?hy210⟩) (by assumption) ?rest210
              case hi210 => simp only [List.getElem?_toArray, List.getElem?_cons_succ, List.getElem?_cons_zero]; rfl
              case hf210 => kernel_rfl
              case hr210 => kernel_rfl
              case hw210 => rfl
              case hy210 => (intro w hSw; (try dsimp only at hSw); go_simp; all_goals (first | done | with_reducible rfl))
              case hQ210 => exact fun _ _ _ h => h
              simp only [Act.put, List.setIfInBounds_toArray, List.set_cons_zero, List.set_cons_succ]
              refine wpAnyH_take (i := 1) (oi := ?oi211) (v := ?v211) ?hi211 (by kernel_rfl) ?hf211 ?hr211 ?hQ211 (Or.inl ⟨?hw211, ?hy211⟩) (by assumption) ?rest211
              case hi211 => simp only [List.getElem?_toArray, List.getElem?_cons_succ, List.getElem?_cons_zero]; rfl
              case hf211 => kernel_rfl
              case hr211 => kernel_rfl
              case hw211 => rfl
              case hy211 => (intro w hSw; (try dsimp only at hSw); go_simp; all_goals (first | done | with_reducible rfl))
              case hQ211 => exact fun _ _ _ h => h
              simp only [Act.put, List.setIfInBounds_toArray, List.set_cons_zero, List.set_cons_succ]
              refine wpAnyH_take (i := 2) (oi := ?oi212) (v := ?v212) ?hi212 (by kernel_rfl) ?hf212 ?hr212 ?hQ212 (Or.inl ⟨?hw212, ?hy212⟩) (by assumption) ?rest212
              case hi212 => simp only [List.getElem?_toArray, List.getElem?_cons_succ, List.getElem?_cons_zero]; rfl
              case hf212 => kernel_rfl
              case hr212 => kernel_rfl
              case hw212 => rfl
              case hy212 => (intro w hSw; (try dsimp only at hSw); go_simp; all_goals (first | done | with_reducible rfl))
              case hQ212 => exact fun _ _ _ h => h
              simp only [Act.put, List.setIfInBounds_toArray, List.set_cons_zero, List.set_cons_succ]
              refine wpAnyH_take (i := 4) (oi := ?oi213) (v := ?v213) ?hi213 (by kernel_rfl) ?hf213 ?hr213 ?hQ213 (Or.inl ⟨?hw213, ?hy213⟩) (by assumption) ?rest213
              case hi213 => simp only [List.getElem?_toArray, List.getElem?_cons_succ, List.getElem?_cons_zero]; rfl
              case hf213 => kernel_rfl
              case hr213 => kernel_rfl
              case hw213 => rfl
              case hy213 => (intro w hSw; (try dsimp only at hSw); go_simp; all_goals (first | done | with_reducible rfl))
              case hQ213 => exact fun _ _ _ h => h
              simp only [Act.put, List.setIfInBounds_toArray, List.set_cons_zero, List.set_cons_succ]
              generalize hwd : w1.drew = wd at *
              clear hwd
              refine wpAnyH_ready (rs := [3, 9]) (by kernel_rfl) (by simp) ?_
              refine AllReadyH.cons (o := ?oi214) ?hi214 (fun K hK => ?stepA214) (AllReadyH.cons (o := ?oj214) ?hj214 (fun K hK => ?stepB214) AllReadyH.nil)
              case hi214 => simp only [List.getElem?_toArray, List.getElem?_cons_succ, List.getElem?_cons_zero]; rfl
              case hj214 => simp only [List.getElem?_toArray, List.getElem?_cons_succ, List.getElem?_cons_zero]; rfl
              all_goals rw [if_pos (by rfl)]
              all_goals go_simp
              · go_at_call 96
                refine (CO.out _ (HB1.out.trans ((HR0.out).mono HB1.out.size))).mono ?_
                rintro e wa1 ⟨Aq, fq, cq, rfl, hF, hb⟩
                have HF1 := hid hF
                have HR1 := hid ((HR0.out).trans (hb.mono (HR0.out).size))
                clear hb hF
                refine hK.out _ _ (SF.out _ HR1.out) (fun hS => ?_)
                refine wpAnyH_ready (rs := [5, 9]) (by kernel_rfl) (by simp) ?_
                refine AllReadyH.cons (o := ?oi215) ?hi215 (fun K hK => ?stepA215) (AllReadyH.cons (o := ?oj215) ?hj215 (fun K hK => ?stepB215) AllReadyH.nil)
                case hi215 => simp only [List.getElem?_toArray, List.getElem?_cons_succ, List.getElem?_cons_zero]; rfl
                case hj215 => simp only [List.getElem?_toArray, List.getElem?_cons_succ, List.getElem?_cons_zero]; rfl
                all_goals rw [if_pos (by rfl)]
                all_goals go_simp
                · go_at_call 95
                  refine (CF.out _ _ _ _ (HF1.out)).mono ?_
                  rintro e wa2 ⟨rfl, hb⟩
                  have HR2 := hid ((HR1.out).trans (hb.mono (HR1.out).size))
                  clear hb
                  refine hK.out _ _ (SF.out _ HR2.out) (fun hS => ?_)
                  refine wpAnyH_take (i := 6) (oi := ?oi216) (v := ?v216) ?hi216 (by kernel_rfl) ?hf216 ?hr216 ?hQ216 (Or.inl ⟨?hw216, ?hy216⟩) (by assumption) ?rest216
                  case hi216 => simp only [List.getElem?_toArray, List.getElem?_cons_succ, List.getElem?_cons_zero]; rfl
                  case hf216 => kernel_rfl
                  case hr216 => kernel_rfl
                  case hw216 => rfl
                  case hy216 => (intro w hSw; (try dsimp only at hSw); go_simp; all_goals (first | done | with_reducible rfl))
                  case hQ216 => exact fun _ _ _ h => h
                  simp only [Act.put, List.setIfInBounds_toArray, List.set_cons_zero, List.set_cons_succ]
                  refine wpAnyH_take (i := 7) (oi := ?oi217) (v := ?v217) ?hi217 (by kernel_rfl) ?hf217 ?hr217 ?hQ217 (Or.inl ⟨?hw217, ?hy217⟩) (by assumption) ?rest217
                  case hi217 => simp only [List.getElem?_toArray, List.getElem?_cons_succ, List.getElem?_cons_zero]; rfl
                  case hf217 => kernel_rfl
                  case hr217 => kernel_rfl
                  case hw217 => rfl
                  case hy217 => (intro w hSw; (try dsimp only at hSw); go_simp; all_goals (first | done | with_reducible rfl))
                  case hQ217 => exact fun _ _ _ h => h
                  simp only [Act.put, List.setIfInBounds_toArray, List.set_cons_zero, List.set_cons_succ]
                  refine wpAnyH_take (i := 8) (oi := ?oi218) (v := ?v218) ?hi218 (by kernel_rfl) ?hf218 ?hr218 ?hQ218 (Or.inl ⟨?hw218, ?hy218⟩) (by assumption) ?rest218
                  case hi218 => simp only [List.getElem?_toArray, List.getElem?_cons_succ, List.getElem?_cons_zero]; rfl
                  case hf218 => kernel_rfl
                  case hr218 => kernel_rfl
                  case hw218 => rfl
                  case hy218 => (intro w hSw; (try dsimp only at hSw); go_simp; all_goals (first | done | with_reducible rfl))
                  case hQ218 => exact fun _ _ _ h => h
                  simp only [Act.put, List.setIfInBounds_toArray, List.set_cons_zero, List.set_cons_succ]
                  refine wpAnyH_ready (rs := [9]) (by kernel_rfl) (by simp) ?_
                  refine AllReadyH.cons (o := ?oi219) ?hi219 (fun K hK => ?step219) AllReadyH.nil
                  case hi219 => simp only [List.getElem?_toArray, List.getElem?_cons_succ, List.getElem?_cons_zero]; rfl
                  rw [if_pos (by rfl)]
                  go_simp
                  have HR3 := hid ((HR2.out).alloc (HR2.out).size (.cells #[.string ⟨#[]⟩, .int .i64 0, .string ⟨#[]⟩, .int .i64 0] 28))
                  have KX3 := hid (Blk.new wa2 #[.string ⟨#[]⟩, .int .i64 0, .string ⟨#[]⟩, .int .i64 0] 28)
                  have hbx : w1.heap.size ≤ wa2.heap.size := (HR2.out).size
                  refine hK.out _ _ (SF.out _ HR3.out) (fun hS => ?_)
                  generalize hbxx : wa2.heap.size = bx at *
                  generalize wa2.alloc (.cells #[.string ⟨#[]⟩, .int .i64 0, .string ⟨#[]⟩, .int .i64 0] 28) = wx3 at *
                  clear hbxx
                  have HR9 := hid (below_setCellsX bx hbx [.string nm, .int .i64 g, .string tx, .int .i64 sq] 0 _ (HR3.out))
                  have RB := hid ((KX3.out).storeX (vs := [.string nm, .int .i64 g, .string tx, .int .i64 sq]) rfl)
                  have hth := (KX3.out).thereX
                  refine wpAnyH_ready (rs := [10]) (by kernel_rfl) (by simp) ?_
                  refine AllReadyH.cons (o := ?oi220) ?hi220 (fun K hK => ?step220) AllReadyH.nil
                  case hi220 => simp only [List.getElem?_toArray, List.getElem?_cons_succ, List.getElem?_cons_zero]; rfl
                  rw [if_pos (by rfl)]
                  refine wp_store_mid 28 (.tmp 6) (.tmp 57) rfl bx 0 #[.string nm, .int .i64 g, .string tx, .int .i64 sq] (by rfl) (by rfl) hth Tryz.sizeRecordX (all_oneCell_toArray (cs := [.string nm, .int .i64 g, .string tx, .int .i64 sq]) (List.all_eq_true.1 rfl)) ?_
                  refine hK.out _ _ (SF.out _ HR9.out) (fun hS => ?_)
                  simp only [Act.put, List.setIfInBounds_toArray, List.set_cons_zero, List.set_cons_succ]
                  refine wpAnyH_take (i := 11) (oi := ?oi221) (v := ?v221) ?hi221 (by kernel_rfl) ?hf221 ?hr221 ?hQ221 (Or.inl ⟨?hw221, ?hy221⟩) (by assumption) ?rest221
                  case hi221 => simp only [List.getElem?_toArray, List.getElem?_cons_succ, List.getElem?_cons_zero]; rfl
                  case hf221 => kernel_rfl
                  case hr221 => kernel_rfl
                  case hw221 => rfl
                  case hy221 => (intro w hSw; (try dsimp only at hSw); go_simp; all_goals (first | done | with_reducible rfl))
                  case hQ221 => exact fun _ _ _ h => h
                  simp only [Act.put, List.setIfInBounds_toArray, List.set_cons_zero, List.set_cons_succ]
                  refine wpAnyH_done (by kernel_rfl) ?_ _
                  clear hS hth
                  go_wp2_with fail
                  go_meet
                  case rel => exact ⟨_, rfl, rfl, hbx, RB.out, HR9.out⟩
                · have HR4 := hid ((HR1.out).alloc (HR1.out).size (.cells #[.string ⟨#[]⟩, .int .i64 0, .string ⟨#[]⟩, .int .i64 0] 28))
                  have KX4 := hid (Blk.new wa1 #[.string ⟨#[]⟩, .int .i64 0, .string ⟨#[]⟩, .int .i64 0] 28)
                  have hbx : w1.heap.size ≤ wa1.heap.size := (HR1.out).size
                  have HF4 := hid (show Fs (wa1.alloc (.cells #[.string ⟨#[]⟩, .int .i64 0, .string ⟨#[]⟩, .int .i64 0] 28)) (wa1.alloc (.cells #[.string ⟨#[]⟩, .int .i64 0, .string ⟨#[]⟩, .int .i64 0] 28)).heap.size fq (.slice Aq fq cq) (ownF L nm.data.toList) from ⟨((HF1.out).1.below ((Below.refl wa1.heap.size wa1).alloc (Nat.le_refl _) _) (Nat.le_refl _)).more (by simp), (HF1.out).2⟩)
                  refine hK.out _ _ (SF.out _ HR4.out) (fun hS => ?_)
                  generalize hbxx : wa1.heap.size = bx at *
                  generalize wa1.alloc (.cells #[.string ⟨#[]⟩, .int .i64 0, .string ⟨#[]⟩, .int .i64 0] 28) = wx4 at *
                  clear hbxx
                  refine wpAnyH_ready (rs := [5]) (by kernel_rfl) (by simp) ?_
                  refine AllReadyH.cons (o := ?oi222) ?hi222 (fun K hK => ?step222) AllReadyH.nil
                  case hi222 => simp only [List.getElem?_toArray, List.getElem?_cons_succ, List.getElem?_cons_zero]; rfl
                  rw [if_pos (by rfl)]
                  go_simp
                  go_at_call 95
                  refine (CF.out _ _ _ _ (HF4.out)).mono ?_
                  rintro e wa5 ⟨rfl, hb⟩
                  have HR5 := hid ((HR4.out).trans (hb.mono (HR4.out).size))
                  have KX5 := hid ((KX4.out).to hb)
                  clear hb
                  refine hK.out _ _ (SF.out _ HR5.out) (fun hS => ?_)
                  refine wpAnyH_take (i := 6) (oi := ?oi223) (v := ?v223) ?hi223 (by kernel_rfl) ?hf223 ?hr223 ?hQ223 (Or.inl ⟨?hw223, ?hy223⟩) (by assumption) ?rest223
                  case hi223 => simp only [List.getElem?_toArray, List.getElem?_cons_succ, List.getElem?_cons_zero]; rfl
                  case hf223 => kernel_rfl
                  case hr223 => kernel_rfl
                  case hw223 => rfl
                  case hy223 => (intro w hSw; (try dsimp only at hSw); go_simp; all_goals (first | done | with_reducible rfl))
                  case hQ223 => exact fun _ _ _ h => h
                  simp only [Act.put, List.setIfInBounds_toArray, List.set_cons_zero, List.set_cons_succ]
                  refine wpAnyH_take (i := 7) (oi := ?oi224) (v := ?v224) ?hi224 (by kernel_rfl) ?hf224 ?hr224 ?hQ224 (Or.inl ⟨?hw224, ?hy224⟩) (by assumption) ?rest224
                  case hi224 => simp only [List.getElem?_toArray, List.getElem?_cons_succ, List.getElem?_cons_zero]; rfl
                  case hf224 => kernel_rfl
                  case hr224 => kernel_rfl
                  case hw224 => rfl
                  case hy224 => (intro w hSw; (try dsimp only at hSw); go_simp; all_goals (first | done | with_reducible rfl))
                  case hQ224 => exact fun _ _ _ h => h
                  simp only [Act.put, List.setIfInBounds_toArray, List.set_cons_zero, List.set_cons_succ]
                  refine wpAnyH_take (i := 8) (oi := ?oi225) (v := ?v225) ?hi225 (by kernel_rfl) ?hf225 ?hr225 ?hQ225 (Or.inl ⟨?hw225, ?hy225⟩) (by assumption) ?rest225
                  case hi225 => simp only [List.getElem?_toArray, List.getElem?_cons_succ, List.getElem?_cons_zero]; rfl
                  case hf225 => kernel_rfl
                  case hr225 => kernel_rfl
                  case hw225 => rfl
                  case hy225 => (intro w hSw; (try dsimp only at hSw); go_simp; all_goals (first | done | with_reducible rfl))
                  case hQ225 => exact fun _ _ _ h => h
                  simp only [Act.put, List.setIfInBounds_toArray, List.set_cons_zero, List.set_cons_succ]
                  have HR9 := hid (below_setCellsX bx hbx [.string nm, .int .i64 g, .string tx, .int .i64 sq] 0 _ (HR5.out))
                  have RB := hid ((KX5.out).storeX (vs := [.string nm, .int .i64 g, .string tx, .int .i64 sq]) rfl)
                  have hth := (KX5.out).thereX
                  refine wpAnyH_ready (rs := [10]) (by kernel_rfl) (by simp) ?_
                  refine AllReadyH.cons (o := ?oi226) ?hi226 (fun K hK => ?step226) AllReadyH.nil
                  case hi226 => simp only [List.getElem?_toArray, List.getElem?_cons_succ, List.getElem?_cons_zero]; rfl
                  rw [if_pos (by rfl)]
                  refine wp_store_mid 28 (.tmp 6) (.tmp 57) rfl bx 0 #[.string nm, .int .i64 g, .string tx, .int .i64 sq] (by rfl) (by rfl) hth Tryz.sizeRecordX (all_oneCell_toArray (cs := [.string nm, .int .i64 g, .string tx, .int .i64 sq]) (List.all_eq_true.1 rfl)) ?_
                  refine hK.out _ _ (SF.out _ HR9.out) (fun hS => ?_)
                  simp only [Act.put, List.setIfInBounds_toArray, List.set_cons_zero, List.set_cons_succ]
                  refine wpAnyH_take (i := 11) (oi := ?oi227) (v := ?v227) ?hi227 (by kernel_rfl) ?hf227 ?hr227 ?hQ227 (Or.inl ⟨?hw227, ?hy227⟩) (by assumption) ?rest227
                  case hi227 => simp only [List.getElem?_toArray, List.getElem?_cons_succ, List.getElem?_cons_zero]; rfl
                  case hf227 => kernel_rfl
                  case hr227 => kernel_rfl
                  case hw227 => rfl
                  case hy227 => (intro w hSw; (try dsimp only at hSw); go_simp; all_goals (first | done | with_reducible rfl))
                  case hQ227 => exact fun _ _ _ h => h
                  simp only [Act.put, List.setIfInBounds_toArray, List.set_cons_zero, List.set_cons_succ]
                  refine wpAnyH_done (by kernel_rfl) ?_ _
                  clear hS hth
                  go_wp2_with fail
                  go_meet
                  case rel => exact ⟨_, rfl, rfl, hbx, RB.out, HR9.out⟩
              · have HR6 := hid ((HR0.out).alloc (HR0.out).size (.cells #[.string ⟨#[]⟩, .int .i64 0, .string ⟨#[]⟩, .int .i64 0] 28))
                have KX6 := hid (Blk.new wd #[.string ⟨#[]⟩, .int .i64 0, .string ⟨#[]⟩, .int .i64 0] 28)
                have hbx : w1.heap.size ≤ wd.heap.size := (HR0.out).size
                refine hK.out _ _ (SF.out _ HR6.out) (fun hS => ?_)
                generalize hbxx : wd.heap.size = bx at *
                generalize wd.alloc (.cells #[.string ⟨#[]⟩, .int .i64 0, .string ⟨#[]⟩, .int .i64 0] 28) = wx6 at *
                clear hbxx
                refine wpAnyH_ready (rs := [3]) (by kernel_rfl) (by simp) ?_
                refine AllReadyH.cons (o := ?oi228) ?hi228 (fun K hK => ?step228) AllReadyH.nil
                case hi228 => simp only [List.getElem?_toArray, List.getElem?_cons_succ, List.getElem?_cons_zero]; rfl
                rw [if_pos (by rfl)]
                go_simp
                go_at_call 96
                refine (CO.out _ (HB1.out.trans ((HR6.out).mono HB1.out.size))).mono ?_
                rintro e wa7 ⟨Aq, fq, cq, rfl, hF, hb⟩
                have HF7 := hid hF
                have HR7 := hid ((HR6.out).trans (hb.mono (HR6.out).size))
                have KX7 := hid ((KX6.out).to hb)
                clear hb hF
                refine hK.out _ _ (SF.out _ HR7.out) (fun hS => ?_)
                refine wpAnyH_ready (rs := [5]) (by kernel_rfl) (by simp) ?_
                refine AllReadyH.cons (o := ?oi229) ?hi229 (fun K hK => ?step229) AllReadyH.nil
                case hi229 => simp only [List.getElem?_toArray, List.getElem?_cons_succ, List.getElem?_cons_zero]; rfl
                rw [if_pos (by rfl)]
                go_simp
                go_at_call 95
                refine (CF.out _ _ _ _ (HF7.out)).mono ?_
                rintro e wa8 ⟨rfl, hb⟩
                have HR8 := hid ((HR7.out).trans (hb.mono (HR7.out).size))
                have KX8 := hid ((KX7.out).to hb)
                clear hb
                refine hK.out _ _ (SF.out _ HR8.out) (fun hS => ?_)
                refine wpAnyH_take (i := 6) (oi := ?oi230) (v := ?v230) ?hi230 (by kernel_rfl) ?hf230 ?hr230 ?hQ230 (Or.inl ⟨?hw230, ?hy230⟩) (by assumption) ?rest230
                case hi230 => simp only [List.getElem?_toArray, List.getElem?_cons_succ, List.getElem?_cons_zero]; rfl
                case hf230 => kernel_rfl
                case hr230 => kernel_rfl
                case hw230 => rfl
                case hy230 => (intro w hSw; (try dsimp only at hSw); go_simp; all_goals (first | done | with_reducible rfl))
                case hQ230 => exact fun _ _ _ h => h
                simp only [Act.put, List.setIfInBounds_toArray, List.set_cons_zero, List.set_cons_succ]
                refine wpAnyH_take (i := 7) (oi := ?oi231) (v := ?v231) ?hi231 (by kernel_rfl) ?hf231 ?hr231 ?hQ231 (Or.inl ⟨?hw231, ?hy231⟩) (by assumption) ?rest231
                case hi231 => simp only [List.getElem?_toArray, List.getElem?_cons_succ, List.getElem?_cons_zero]; rfl
                case hf231 => kernel_rfl
                case hr231 => kernel_rfl
                case hw231 => rfl
                case hy231 => (intro w hSw; (try dsimp only at hSw); go_simp; all_goals (first | done | with_reducible rfl))
                case hQ231 => exact fun _ _ _ h => h
                simp only [Act.put, List.setIfInBounds_toArray, List.set_cons_zero, List.set_cons_succ]
                refine wpAnyH_take (i := 8) (oi := ?oi232) (v := ?v232) ?hi232 (by kernel_rfl) ?hf232 ?hr232 ?hQ232 (Or.inl ⟨?hw232, ?hy232⟩) (by assumption) ?rest232
                case hi232 => simp only [List.getElem?_toArray, List.getElem?_cons_succ, List.getElem?_cons_zero]; rfl
                case hf232 => kernel_rfl
                case hr232 => kernel_rfl
                case hw232 => rfl
                case hy232 => (intro w hSw; (try dsimp only at hSw); go_simp; all_goals (first | done | with_reducible rfl))
                case hQ232 => exact fun _ _ _ h => h
                simp only [Act.put, List.setIfInBounds_toArray, List.set_cons_zero, List.set_cons_succ]
                have HR9 := hid (below_setCellsX bx hbx [.string nm, .int .i64 g, .string tx, .int .i64 sq] 0 _ (HR8.out))
                have RB := hid ((KX8.out).storeX (vs := [.string nm, .int .i64 g, .string tx, .int .i64 sq]) rfl)
                have hth := (KX8.out).thereX
                refine wpAnyH_ready (rs := [10]) (by kernel_rfl) (by simp) ?_
                refine AllReadyH.cons (o := ?oi233) ?hi233 (fun K hK => ?step233) AllReadyH.nil
                case hi233 => simp only [List.getElem?_toArray, List.getElem?_cons_succ, List.getElem?_cons_zero]; rfl
                rw [if_pos (by rfl)]
                refine wp_store_mid 28 (.tmp 6) (.tmp 57) rfl bx 0 #[.string nm, .int .i64 g, .string tx, .int .i64 sq] (by rfl) (by rfl) hth Tryz.sizeRecordX (all_oneCell_toArray (cs := [.string nm, .int .i64 g, .string tx, .int .i64 sq]) (List.all_eq_true.1 rfl)) ?_
                refine hK.out _ _ (SF.out _ HR9.out) (fun hS => ?_)
                simp only [Act.put, List.setIfInBounds_toArray, List.set_cons_zero, List.set_cons_succ]
                refine wpAnyH_take (i := 11) (oi := ?oi234) (v := ?v234) ?hi234 (by kernel_rfl) ?hf234 ?hr234 ?hQ234 (Or.inl ⟨?hw234, ?hy234⟩) (by assumption) ?rest234
                case hi234 => simp only [List.getElem?_toArray, List.getElem?_cons_succ, List.getElem?_cons_zero]; rfl
                case hf234 => kernel_rfl
                case hr234 => kernel_rfl
                case hw234 => rfl
                case hy234 => (intro w hSw; (try dsimp only at hSw); go_simp; all_goals (first | done | with_reducible rfl))
                case hQ234 => exact fun _ _ _ h => h
                simp only [Act.put, List.setIfInBounds_toArray, List.set_cons_zero, List.set_cons_succ]
                refine wpAnyH_done (by kernel_rfl) ?_ _
                clear hS hth
                go_wp2_with fail
                go_meet
                case rel => exact ⟨_, rfl, rfl, hbx, RB.out, HR9.out⟩
            case rest =>
              obtain ⟨bx, rfl, rfl, hbx, KX, HRc⟩ := hcut
              rename World => wq
              have HBc := hid (HB1.out.trans (HRc.out.mono HB1.out.size))
              have HTc := hid (HT1.out.to HRc.out)
              have HKc := hid (HK1.out.to HRc.out)
              have hbc : bx < wq.heap.size := KX.out.1
              have t0 := (HTc.out.2 0 _ rfl).1
              have t1 := (HTc.out.2 1 _ rfl).1
              have t2 := (HTc.out.2 2 _ rfl).1
              have d0 := (HKc.out.2 0 _ rfl).1
              go_wp2_with fail
              refine (CS.out _ HBc.out).mono ?_
              rintro e w5 ⟨vS, rfl, hoS, hb⟩
              obtain ⟨AS, cS, rfl, -, hcS⟩ := (Sl.of_own hoS).form
              unfold maxLen at hcS
              have HB5 := hid (HBc.out.trans (hb.mono HBc.out.size))
              have HX5 := hid (KX.out.to hb)
              have HT5 := hid (HTc.out.to hb)
              have HS5 := hid hoS
              have h5s : wq.heap.size ≤ w5.heap.size := hb.size
              have HA0 := hid (show ∀ z, (Value.slice (some ⟨w5.heap.size, 0, none⟩) 0 0).ownBlock = some z → (Value.slice AS sp.length cS).ownBlock ≠ some z from fun z hz e => by
                have h1 := (hoS.lt z e).2
                simp [Value.ownBlock] at hz
                omega)
              have HX0 := hid (show ∀ z, (Value.slice (some ⟨w5.heap.size, 0, none⟩) 0 0).ownBlock = some z → z ≠ bx from fun z hz e => by
                simp [Value.ownBlock] at hz
                omega)
              have HO5 := hid (World.ownsRow_lit w5 #[] 0 (Nat.le_refl _) (by unfold maxLen; omega) (by simp) : (w5.alloc (.cells #[] 54)).ownsRow w5.heap.size 54 3 (.slice (some ⟨w5.heap.size, 0, none⟩) 0 0) 0 [])
              clear hb hoS t0 t1 t2 d0 HRc HB1 HT1 HK1
              generalize hns : sp.length = ns at *
              have HNS := hid hns
              have hns30 : ns ≤ 30 := HSL.out
              clear hns
              have x0 := (HX5.out.2 0 _ rfl).1
              have x1 := (HX5.out.2 1 _ rfl).1
              have x2 := (HX5.out.2 2 _ rfl).1
              have x3 := (HX5.out.2 3 _ rfl).1
              by_cases hsp : ns = 0
              · subst hsp
                have hsp0 : sp = [] := List.length_eq_zero_iff.1 HNS.out
                have HE2 := hid (show Y = [⟨if 30 ≤ g then 0 else 5, [], lastL⟩] by rw [HE.out, HSX.out, if_pos hsp0]; exact HLAST.out g)
                clear hsp0
                by_cases h30 : 30 ≤ g
                · have HE3 := hid (show Y = [⟨0, [], lastL⟩] by rw [HE2.out, if_pos h30])
                  go_wp2_with fail
                  go_ret
                  exact ⟨_, rfl, by rw [HE3.out]; exact reason_lit w5 0 ⟨#[108, 97, 115, 116]⟩ _ _ (by simp) (HB5.out).size, (HB5.out).alloc (HB5.out).size _⟩
                · have HE3 := hid (show Y = [⟨5, [], lastL⟩] by rw [HE2.out, if_neg h30])
                  go_wp2_with fail
                  go_ret
                  exact ⟨_, rfl, by rw [HE3.out]; exact reason_lit w5 5 ⟨#[108, 97, 115, 116]⟩ _ _ (by simp) (HB5.out).size, (HB5.out).alloc (HB5.out).size _⟩
              · have q1 : ((ns : Int) == 0) = false := by simp; omega
                have HSP := hid (show SP = sp by rw [HSX.out, if_neg (fun e => hsp (by rw [← HNS.out, e]; rfl))])
                go_wp2_with fail
                go_loopw [9, 10] (fun ov iv wr => ∃ (k : Nat) (g' : Int) (x : List Rsn), iv = .int .i64 k ∧ k ≤ ns ∧ 1 ≤ g' ∧ g' ≤ 60 ∧ Hid (lvAfter H nm.data.toList tx.data.toList (sp.take k) g = g') ∧ Hid (x = whyOf (outs H nm.data.toList tx.data.toList (sp.take k) g)) ∧ x.length ≤ k ∧ Hid (wr.ownsRow w5.heap.size 54 3 ov x.length (x.flatMap rscells)) ∧ Hid (wr.ownsRow wq.heap.size 43 2 (.slice AS ns cS) ns (sp.flatMap spcells)) ∧ Hid (∀ z, ov.ownBlock = some z → (Value.slice AS ns cS).ownBlock ≠ some z) ∧ Hid (∀ z, ov.ownBlock = some z → z ≠ bx) ∧ Hid (Blk wr bx [.string nm, .int .i64 g', .string tx, .int .i64 sq]) ∧ Hid (Blk wr w.heap.size [.slice (some ⟨b, o, none⟩) n1 k1, .slice A2 n2 k2, .int .i64 q]) ∧ Hid (Below w.heap.size w wr) ∧ Hid (w5.heap.size ≤ wr.heap.size)) (fun _ iv _ => ns - (intOf iv).toNat)
                case atStart => exact ⟨0, g, [], rfl, by omega, g1, g2, rfl, rfl, by simp, HO5.out, HS5.out.alloc _, HA0.out, HX0.out, HX5.out.alloc _, HT5.out.alloc _, HB5.out.alloc HB5.out.size _, by simp [Hid]⟩
                case round =>
                  obtain ⟨k, g', x, rfl, hk, hp1, hp2, HLv, HXk, hxl, HO, HS, HA, HX, HKx, HT, HB, H5R⟩ := hrel
                  obtain ⟨Ax, cx, rfl, -, -⟩ := (Sl.of_own HO.out).form
                  clear x0 x1 x2 x3
                  by_cases hlt : k < ns
                  · obtain ⟨bs, os, lg, hd, eA, hbs, hx1, e0, e1⟩ := spcells_at (Sl.of_own HS.out) hlt
                    have hbs2 : wq.heap.size ≤ bs := (HS.out.lt bs (by rw [eA]; rfl)).1
                    obtain ⟨hh, hH, hnd, hnl⟩ := HHH.out
                    obtain ⟨j, hj, hix, hHj, hHn⟩ := hand_idx hH hnd (hld.out _ (List.mem_of_getElem? hx1))
                    have hn2 : hs.length = n2 := Sl.count hcells_len hh.1 (by omega)
                    obtain ⟨bh, oh, p, y, A4, fn, k4, eA2, hbh, hy, hps, hpz, hff, c0, c1, c2⟩ := handler_at (hh.below HB.out HBB.out) hH (k := j) (by omega)
                    obtain rfl : y = hOf H hd.data.toList := by rw [hHj] at hy; exact (Option.some.inj hy).symm
                    obtain rfl : p = hd := bytes_ext' (by rw [hps, hHn])
                    have hcap2 := hh.1.cap
                    unfold maxLen at hcap2
                    have HAT := hid (fun (W : World) (hW : Below w.heap.size w W) => (show Calls Tryz.prog 98 #[.slice A2 n2 k2, .string p] W (fun e w' => e = .returned (.int .i64 ((j : Nat) : Int)) ∧ w' = W) from by have h9 := AT.out p W hW; rw [hix] at h9; exact h9))
                    have HST := hid (why_step2 hx1 HLv.out)
                    have CFh := fun (W : World) (hW : Below w.heap.size w W) (hF : Fs W B fn (.slice A4 fn k4) (hOf H p.data.toList).fs) => specFiltered_c (.slice A4 fn k4) fn B (hOf H p.data.toList).fs nm tx g' sq W hF (Nat.le_trans HBB.out hW.size) (filtersOk_all (HFO.out _)) hnm htx hp1 hp2
                    have hjn : j < n2 := by omega
                    have HFf := hid hff
                    have hrg := askH_range (nm := nm.data.toList) (tx := tx.data.toList) (HFO.out p.data.toList) hp1 hp2
                    have K1 := hid (fun (hq : g' < (hOf H p.data.toList).lv) => askH_low (nm := nm.data.toList) (tx := tx.data.toList) hq)
                    have K2 := hid (fun (hq : ¬ g' < (hOf H p.data.toList).lv) (hf : filtL nm.data.toList tx.data.toList (hOf H p.data.toList).fs g' = none) => askH_drop hq hf)
                    have K3 := hid (fun (z : Int) (hq : ¬ g' < (hOf H p.data.toList).lv) (hf : filtL nm.data.toList tx.data.toList (hOf H p.data.toList).fs g' = some z) => askH_sent (q := z) hq hf)
                    clear hh hH hnd hnl hix hHj hHn hj hn2 hy hps hff hx1
                    subst eA
                    subst eA2
                    generalize (hOf H p.data.toList).lv = hl at *
                    have t0 := (HT.out.2 0 _ rfl).1
                    have t1 := (HT.out.2 1 _ rfl).1
                    have t2 := (HT.out.2 2 _ rfl).1
                    have hwr0 : w.heap.size < wr.heap.size := HT.out.1
                    have hbhr : bh < wr.heap.size := by have := HBB.out; omega
                    have s0 : (0 : Int) ≤ (k : Int) := by omega
                    have s1 : (k : Int) < (ns : Int) := by omega
                    have s2 : ((k : Int)).toNat = k := by simp
                    have r0 : (0 : Int) ≤ (j : Int) := by omega
                    have r1 : (j : Int) < (n2 : Int) := by omega
                    have r2 : ((j : Int)).toNat = j := by simp
                    go_wp2_with fail
                    have SG := hid (fun (W : World) (hR : Below wr.heap.size wr W) => (show (fun w' : World => w'.cell? ⟨w.heap.size, 0, none⟩ = some (.slice (some ⟨b, o, none⟩) n1 k1) ∧ w'.cell? ⟨w.heap.size, 1, none⟩ = some (.slice (some ⟨bh, oh, none⟩) n2 k2) ∧ w'.cell? ⟨w.heap.size, 2, none⟩ = some (.int .i64 q) ∧ w'.cell? ⟨bs, os + k * 2 + 1, none⟩ = some (.string p) ∧ w'.cell? ⟨bh, oh + j * 3, none⟩ = some (.string p) ∧ w'.cell? ⟨bh, oh + j * 3 + 1, none⟩ = some (.int .i64 hl) ∧ w'.cell? ⟨bh, oh + j * 3 + 2, none⟩ = some (.slice A4 fn k4)) W from ⟨((HT.out.to hR).2 0 _ rfl).1, ((HT.out.to hR).2 1 _ rfl).1, ((HT.out.to hR).2 2 _ rfl).1, (hR.cell (p := ⟨bs, _, none⟩) hbs).trans e1, (hR.cell (p := ⟨bh, _, none⟩) hbhr).trans c0, (hR.cell (p := ⟨bh, _, none⟩) hbhr).trans c1, (hR.cell (p := ⟨bh, _, none⟩) hbhr).trans c2⟩))
                    have E0 := hid e0
                    clear e0 e1 c0 c1 c2
                    go_cut [11] from 78 to 145 (fun hv wd => ∃ bz, hv = .pointer (some ⟨bz, 0, none⟩) ∧ wr.heap.size ≤ bz ∧ Hid (Blk wd bz [.string p, .int .i64 hl, .slice A4 fn k4]) ∧ Hid (Below wr.heap.size wr wd))
                    case first =>
                      have HR0 := hid ((Below.refl wr.heap.size wr).drew)
                      refine wp_region_held_drew (S := fun w' : World => w'.cell? ⟨w.heap.size, 0, none⟩ = some (.slice (some ⟨b, o, none⟩) n1 k1) ∧ w'.cell? ⟨w.heap.size, 1, none⟩ = some (.slice (some ⟨bh, oh, none⟩) n2 k2) ∧ w'.cell? ⟨w.heap.size, 2, none⟩ = some (.int .i64 q) ∧ w'.cell? ⟨bs, os + k * 2 + 1, none⟩ = some (.string p) ∧ w'.cell? ⟨bh, oh + j * 3, none⟩ = some (.string p) ∧ w'.cell? ⟨bh, oh + j * 3 + 1, none⟩ = some (.int .i64 hl) ∧ w'.cell? ⟨bh, oh + j * 3 + 2, none⟩ = some (.slice A4 fn k4)) (by kernel_rfl) (SG.out _ HR0.out) (fun hS => ?_)
                      refine wpAnyH_take (i := 0) (oi := ?oi235) (v := ?v235) ?hi235 (by kernel_rfl) ?hf235 ?hr235 ?hQ235 (Or.inl ⟨?hw235, ?hy235⟩) (by assumption) ?rest235
                      case hi235 => simp only [List.getElem?_toArray, List.getElem?_cons_succ, List.getElem?_cons_zero]; rfl
                      case hf235 => kernel_rfl
                      case hr235 => kernel_rfl
                      case hw235 => rfl
                      case hy235 => (intro w hSw; (try dsimp only at hSw); go_simp; all_goals (first | done | with_reducible rfl))
                      case hQ235 => exact fun _ _ _ h => h
                      simp only [Act.put, List.setIfInBounds_toArray, List.set_cons_zero, List.set_cons_succ]
                      refine wpAnyH_take (i := 1) (oi := ?oi236) (v := ?v236) ?hi236 (by kernel_rfl) ?hf236 ?hr236 ?hQ236 (Or.inl ⟨?hw236, ?hy236⟩) (by assumption) ?rest236
                      case hi236 => simp only [List.getElem?_toArray, List.getElem?_cons_succ, List.getElem?_cons_zero]; rfl
                      case hf236 => kernel_rfl
                      case hr236 => kernel_rfl
                      case hw236 => rfl
                      case hy236 => (intro w hSw; (try dsimp only at hSw); go_simp; all_goals (first | done | with_reducible rfl))
                      case hQ236 => exact fun _ _ _ h => h
                      simp only [Act.put, List.setIfInBounds_toArray, List.set_cons_zero, List.set_cons_succ]
                      refine wpAnyH_take (i := 2) (oi := ?oi237) (v := ?v237) ?hi237 (by kernel_rfl) ?hf237 ?hr237 ?hQ237 (Or.inl ⟨?hw237, ?hy237⟩) (by assumption) ?rest237
                      case hi237 => simp only [List.getElem?_toArray, List.getElem?_cons_succ, List.getElem?_cons_zero]; rfl
                      case hf237 => kernel_rfl
                      case hr237 => kernel_rfl
                      case hw237 => rfl
                      case hy237 => (intro w hSw; (try dsimp only at hSw); go_simp; all_goals (first | done | with_reducible rfl))
                      case hQ237 => exact fun _ _ _ h => h
                      simp only [Act.put, List.setIfInBounds_toArray, List.set_cons_zero, List.set_cons_succ]
                      refine wpAnyH_take (i := 3) (oi := ?oi238) (v := ?v238) ?hi238 (by kernel_rfl) ?hf238 ?hr238 ?hQ238 (Or.inl ⟨?hw238, ?hy238⟩) (by assumption) ?rest238
                      case hi238 => simp only [List.getElem?_toArray, List.getElem?_cons_succ, List.getElem?_cons_zero]; rfl
                      case hf238 => kernel_rfl
                      case hr238 => kernel_rfl
                      case hw238 => rfl
                      case hy238 => (intro w hSw; (try dsimp only at hSw); go_simp; all_goals (first | done | with_reducible rfl))
                      case hQ238 => exact fun _ _ _ h => h
                      simp only [Act.put, List.setIfInBounds_toArray, List.set_cons_zero, List.set_cons_succ]
                      refine wpAnyH_take (i := 4) (oi := ?oi239) (v := ?v239) ?hi239 (by kernel_rfl) ?hf239 ?hr239 ?hQ239 (Or.inl ⟨?hw239, ?hy239⟩) (by assumption) ?rest239
                      case hi239 => simp only [List.getElem?_toArray, List.getElem?_cons_succ, List.getElem?_cons_zero]; rfl
                      case hf239 => kernel_rfl
                      case hr239 => kernel_rfl
                      case hw239 => rfl
                      case hy239 => (intro w hSw; (try dsimp only at hSw); go_simp; all_goals (first | done | with_reducible rfl))
                      case hQ239 => exact fun _ _ _ h => h
                      simp only [Act.put, List.setIfInBounds_toArray, List.set_cons_zero, List.set_cons_succ]
                      refine wpAnyH_take (i := 5) (oi := ?oi240) (v := ?v240) ?hi240 (by kernel_rfl) ?hf240 ?hr240 ?hQ240 (Or.inl ⟨?hw240, ?hy240⟩) (by assumption) ?rest240
                      case hi240 => simp only [List.getElem?_toArray, List.getElem?_cons_succ, List.getElem?_cons_zero]; rfl
                      case hf240 => kernel_rfl
                      case hr240 => kernel_rfl
                      case hw240 => rfl
                      case hy240 => (intro w hSw; (try dsimp only at hSw); go_simp; all_goals (first | done | with_reducible rfl))
                      case hQ240 => exact fun _ _ _ h => h
                      simp only [Act.put, List.setIfInBounds_toArray, List.set_cons_zero, List.set_cons_succ]
                      refine wpAnyH_take (i := 6) (oi := ?oi241) (v := ?v241) ?hi241 (by kernel_rfl) ?hf241 ?hr241 ?hQ241 (Or.inl ⟨?hw241, ?hy241⟩) (by assumption) ?rest241
                      case hi241 => simp only [List.getElem?_toArray, List.getElem?_cons_succ, List.getElem?_cons_zero]; rfl
                      case hf241 => kernel_rfl
                      case hr241 => kernel_rfl
                      case hw241 => rfl
                      case hy241 => (intro w hSw; (try dsimp only at hSw); go_simp; all_goals (first | done | with_reducible rfl))
                      case hQ241 => exact fun _ _ _ h => h
                      simp only [Act.put, List.setIfInBounds_toArray, List.set_cons_zero, List.set_cons_succ]
                      refine wpAnyH_take (i := 7) (oi := ?oi242) (v := ?v242) ?hi242 (by kernel_rfl) ?hf242 ?hr242 ?hQ242 (Or.inl ⟨?hw242, ?hy242⟩) (by assumption) ?rest242
                      case hi242 => simp only [List.getElem?_toArray, List.getElem?_cons_succ, List.getElem?_cons_zero]; rfl
                      case hf242 => kernel_rfl
                      case hr242 => kernel_rfl
                      case hw242 => rfl
                      case hy242 => (intro w hSw; (try dsimp only at hSw); go_simp; all_goals (first | done | with_reducible rfl))
                      case hQ242 => exact fun _ _ _ h => h
                      simp only [Act.put, List.setIfInBounds_toArray, List.set_cons_zero, List.set_cons_succ]
                      refine wpAnyH_take (i := 8) (oi := ?oi243) (v := ?v243) ?hi243 (by kernel_rfl) ?hf243 ?hr243 ?hQ243 (Or.inl ⟨?hw243, ?hy243⟩) (by assumption) ?rest243
                      case hi243 => simp only [List.getElem?_toArray, List.getElem?_cons_succ, List.getElem?_cons_zero]; rfl
                      case hf243 => kernel_rfl
                      case hr243 => kernel_rfl
                      case hw243 => rfl
                      case hy243 => (intro w hSw; (try dsimp only at hSw); go_simp; all_goals (first | done | with_reducible rfl))
                      case hQ243 => exact fun _ _ _ h => h
                      simp only [Act.put, List.setIfInBounds_toArray, List.set_cons_zero, List.set_cons_succ]
                      generalize hwd : wr.drew = wd at *
                      clear hwd
                      refine wpAnyH_ready (rs := [9, 12]) (by kernel_rfl) (by simp) ?_
                      refine AllReadyH.cons (o := ?oi244) ?hi244 (fun K hK => ?stepA244) (AllReadyH.cons (o := ?oj244) ?hj244 (fun K hK => ?stepB244) AllReadyH.nil)
                      case hi244 => simp only [List.getElem?_toArray, List.getElem?_cons_succ, List.getElem?_cons_zero]; rfl
                      case hj244 => simp only [List.getElem?_toArray, List.getElem?_cons_succ, List.getElem?_cons_zero]; rfl
                      all_goals rw [if_pos (by rfl)]
                      all_goals go_simp
                      · go_at_call 98
                        refine (HAT.out _ (HB.out.trans (HR0.out.mono HB.out.size))).mono ?_
                        rintro e wa ⟨rfl, h9⟩
                        subst h9
                        refine hK.out _ _ (SG.out _ HR0.out) (fun hS => ?_)
                        refine wpAnyH_take (i := 10) (oi := ?oi245) (v := ?v245) ?hi245 (by kernel_rfl) ?hf245 ?hr245 ?hQ245 (Or.inl ⟨?hw245, ?hy245⟩) (by assumption) ?rest245
                        case hi245 => simp only [List.getElem?_toArray, List.getElem?_cons_succ, List.getElem?_cons_zero]; rfl
                        case hf245 => kernel_rfl
                        case hr245 => kernel_rfl
                        case hw245 => rfl
                        case hy245 => (intro w hSw; (try dsimp only at hSw); go_simp; all_goals (first | done | with_reducible rfl))
                        case hQ245 => exact fun _ _ _ h => h
                        simp only [Act.put, List.setIfInBounds_toArray, List.set_cons_zero, List.set_cons_succ]
                        refine wpAnyH_take (i := 11) (oi := ?oi246) (v := ?v246) ?hi246 (by kernel_rfl) ?hf246 ?hr246 ?hQ246 (Or.inl ⟨?hw246, ?hy246⟩) (by assumption) ?rest246
                        case hi246 => simp only [List.getElem?_toArray, List.getElem?_cons_succ, List.getElem?_cons_zero]; rfl
                        case hf246 => kernel_rfl
                        case hr246 => kernel_rfl
                        case hw246 => rfl
                        case hy246 => (intro w hSw; (try dsimp only at hSw); go_simp; all_goals (first | done | with_reducible rfl))
                        case hQ246 => exact fun _ _ _ h => h
                        simp only [Act.put, List.setIfInBounds_toArray, List.set_cons_zero, List.set_cons_succ]
                        refine wpAnyH_ready (rs := [12]) (by kernel_rfl) (by simp) ?_
                        refine AllReadyH.cons (o := ?oi247) ?hi247 (fun K hK => ?step247) AllReadyH.nil
                        case hi247 => simp only [List.getElem?_toArray, List.getElem?_cons_succ, List.getElem?_cons_zero]; rfl
                        rw [if_pos (by rfl)]
                        go_simp
                        have HR2 := hid (HR0.out.alloc HR0.out.size (.cells #[.string ⟨#[]⟩, .int .i64 0, .slice none 0 0] 47))
                        have KX9 := hid (Blk.new wa #[.string ⟨#[]⟩, .int .i64 0, .slice none 0 0] 47)
                        have hbz : wr.heap.size ≤ wa.heap.size := HR0.out.size
                        refine hK.out _ _ (SG.out _ HR2.out) (fun hS => ?_)
                        have HR3 := hid (below_setCellsX wa.heap.size hbz [.string p, .int .i64 hl, .slice A4 fn k4] 0 _ HR2.out)
                        have RB := hid (KX9.out.storeX (vs := [.string p, .int .i64 hl, .slice A4 fn k4]) rfl)
                        have hth := KX9.out.thereX
                        refine wpAnyH_ready (rs := [13]) (by kernel_rfl) (by simp) ?_
                        refine AllReadyH.cons (o := ?oi248) ?hi248 (fun K hK => ?step248) AllReadyH.nil
                        case hi248 => simp only [List.getElem?_toArray, List.getElem?_cons_succ, List.getElem?_cons_zero]; rfl
                        rw [if_pos (by rfl)]
                        refine wp_store_mid 47 (.tmp 11) (.tmp 95) rfl wa.heap.size 0 #[.string p, .int .i64 hl, .slice A4 fn k4] (by rfl) (by rfl) hth Tryz.sizeHandlerX (all_oneCell_toArray (cs := [.string p, .int .i64 hl, .slice A4 fn k4]) (List.all_eq_true.1 rfl)) ?_
                        refine hK.out _ _ (SG.out _ HR3.out) (fun hS => ?_)
                        simp only [Act.put, List.setIfInBounds_toArray, List.set_cons_zero, List.set_cons_succ]
                        refine wpAnyH_done (by kernel_rfl) ?_ _
                        clear hS hth
                        go_wp2_with fail
                        go_meet
                        case rel => exact ⟨_, rfl, hbz, RB.out, HR3.out⟩
                      · have HR1 := hid (HR0.out.alloc HR0.out.size (.cells #[.string ⟨#[]⟩, .int .i64 0, .slice none 0 0] 47))
                        have KX9 := hid (Blk.new wd #[.string ⟨#[]⟩, .int .i64 0, .slice none 0 0] 47)
                        have hbz : wr.heap.size ≤ wd.heap.size := HR0.out.size
                        refine hK.out _ _ (SG.out _ HR1.out) (fun hS => ?_)
                        refine wpAnyH_ready (rs := [9]) (by kernel_rfl) (by simp) ?_
                        refine AllReadyH.cons (o := ?oi249) ?hi249 (fun K hK => ?step249) AllReadyH.nil
                        case hi249 => simp only [List.getElem?_toArray, List.getElem?_cons_succ, List.getElem?_cons_zero]; rfl
                        rw [if_pos (by rfl)]
                        go_simp
                        go_at_call 98
                        refine (HAT.out _ (HB.out.trans (HR1.out.mono HB.out.size))).mono ?_
                        rintro e wa ⟨rfl, h9⟩
                        subst h9
                        refine hK.out _ _ (SG.out _ HR1.out) (fun hS => ?_)
                        refine wpAnyH_take (i := 10) (oi := ?oi250) (v := ?v250) ?hi250 (by kernel_rfl) ?hf250 ?hr250 ?hQ250 (Or.inl ⟨?hw250, ?hy250⟩) (by assumption) ?rest250
                        case hi250 => simp only [List.getElem?_toArray, List.getElem?_cons_succ, List.getElem?_cons_zero]; rfl
                        case hf250 => kernel_rfl
                        case hr250 => kernel_rfl
                        case hw250 => rfl
                        case hy250 => (intro w hSw; (try dsimp only at hSw); go_simp; all_goals (first | done | with_reducible rfl))
                        case hQ250 => exact fun _ _ _ h => h
                        simp only [Act.put, List.setIfInBounds_toArray, List.set_cons_zero, List.set_cons_succ]
                        refine wpAnyH_take (i := 11) (oi := ?oi251) (v := ?v251) ?hi251 (by kernel_rfl) ?hf251 ?hr251 ?hQ251 (Or.inl ⟨?hw251, ?hy251⟩) (by assumption) ?rest251
                        case hi251 => simp only [List.getElem?_toArray, List.getElem?_cons_succ, List.getElem?_cons_zero]; rfl
                        case hf251 => kernel_rfl
                        case hr251 => kernel_rfl
                        case hw251 => rfl
                        case hy251 => (intro w hSw; (try dsimp only at hSw); go_simp; all_goals (first | done | with_reducible rfl))
                        case hQ251 => exact fun _ _ _ h => h
                        simp only [Act.put, List.setIfInBounds_toArray, List.set_cons_zero, List.set_cons_succ]
                        have HR3 := hid (below_setCellsX wd.heap.size hbz [.string p, .int .i64 hl, .slice A4 fn k4] 0 _ HR1.out)
                        have RB := hid (KX9.out.storeX (vs := [.string p, .int .i64 hl, .slice A4 fn k4]) rfl)
                        have hth := KX9.out.thereX
                        refine wpAnyH_ready (rs := [13]) (by kernel_rfl) (by simp) ?_
                        refine AllReadyH.cons (o := ?oi252) ?hi252 (fun K hK => ?step252) AllReadyH.nil
                        case hi252 => simp only [List.getElem?_toArray, List.getElem?_cons_succ, List.getElem?_cons_zero]; rfl
                        rw [if_pos (by rfl)]
                        refine wp_store_mid 47 (.tmp 11) (.tmp 95) rfl wd.heap.size 0 #[.string p, .int .i64 hl, .slice A4 fn k4] (by rfl) (by rfl) hth Tryz.sizeHandlerX (all_oneCell_toArray (cs := [.string p, .int .i64 hl, .slice A4 fn k4]) (List.all_eq_true.1 rfl)) ?_
                        refine hK.out _ _ (SG.out _ HR3.out) (fun hS => ?_)
                        simp only [Act.put, List.setIfInBounds_toArray, List.set_cons_zero, List.set_cons_succ]
                        refine wpAnyH_done (by kernel_rfl) ?_ _
                        clear hS hth
                        go_wp2_with fail
                        go_meet
                        case rel => exact ⟨_, rfl, hbz, RB.out, HR3.out⟩
                    case rest =>
                      obtain ⟨bz, rfl, hbz, KZ, HRd⟩ := hcut
                      have HBd := hid (HB.out.trans (HRd.out.mono HB.out.size))
                      have HOd := hid (own_below HO.out HRd.out)
                      have HSd := hid (own_below HS.out HRd.out)
                      have HKd := hid (HKx.out.to HRd.out)
                      have HTd := hid (HT.out.to HRd.out)
                      have hbxr : bx < wr.heap.size := HKx.out.1
                      have e0d := hid ((HRd.out.cell (p := ⟨bs, os + k * 2, none⟩) hbs).trans E0.out)
                      have hAxz := hid (show ∀ z, (Value.slice Ax x.length cx).ownBlock = some z → z < wr.heap.size from fun z hz => (HO.out.lt z hz).2)
                      have hASz : bs < wr.heap.size := hbs
                      have h5r : w5.heap.size ≤ wr.heap.size := H5R.out
                      clear t0 t1 t2
                      have x0 := (HKd.out.2 0 _ rfl).1
                      have x1 := (HKd.out.2 1 _ rfl).1
                      have x2 := (HKd.out.2 2 _ rfl).1
                      have x3 := (HKd.out.2 3 _ rfl).1
                      have z0 := (KZ.out.2 0 _ rfl).1
                      have z1 := (KZ.out.2 1 _ rfl).1
                      have z2 := (KZ.out.2 2 _ rfl).1
                      have HF1 := CFh _ HBd.out ⟨HFf.out.1.below (HRd.out) (Nat.le_trans HBB.out HB.out.size), HFf.out.2⟩
                      have HX8 := hid h5r
                      cases hfi : filtL nm.data.toList tx.data.toList (hOf H p.data.toList).fs g' with
                      | none =>
                        rw [hfi] at HF1
                        have HF2 := hid (show Calls _ _ _ _ (fun e w' => e = .returned (.tuple #[.agg #[.string ⟨#[]⟩, .int .i64 0, .string ⟨#[]⟩, .int .i64 0], .bool false]) ∧ Below wc.heap.size wc w') from HF1)
                        by_cases hq : g' < hl
                        · rw [K1.out hq] at HST
                          clear HF1 CFh hfi
                          have HST' := hid (show whyOf (outs H nm.data.toList tx.data.toList (sp.take (k + 1)) g) = x ++ [⟨5, lg.data.toList, p.data.toList⟩] ∧ lvAfter H nm.data.toList tx.data.toList (sp.take (k + 1)) g = g' from ⟨by rw [HST.out.1, HXk.out]; first | done | rfl, HST.out.2⟩)
                          go_wp2_with fail
                          refine (HF2.out).mono ?_
                          rintro e w7 ⟨rfl, hb⟩
                          have HB7 := hid ((HBd.out.trans (hb.mono HBd.out.size)).alloc (Nat.le_trans HBd.out.size hb.size) (.cells #[.string ⟨#[]⟩, .int .i64 0, .string ⟨#[]⟩, .int .i64 0] 28))
                          have HO7 := hid ((own_below HOd.out hb).alloc (.cells #[.string ⟨#[]⟩, .int .i64 0, .string ⟨#[]⟩, .int .i64 0] 28))
                          have HS7 := hid ((own_below HSd.out hb).alloc (.cells #[.string ⟨#[]⟩, .int .i64 0, .string ⟨#[]⟩, .int .i64 0] 28))
                          have HK7 := hid ((HKd.out.to hb).alloc (.cells #[.string ⟨#[]⟩, .int .i64 0, .string ⟨#[]⟩, .int .i64 0] 28))
                          have HT7 := hid ((HTd.out.to hb).alloc (.cells #[.string ⟨#[]⟩, .int .i64 0, .string ⟨#[]⟩, .int .i64 0] 28))
                          have HZ7 := hid ((KZ.out.to hb).alloc (.cells #[.string ⟨#[]⟩, .int .i64 0, .string ⟨#[]⟩, .int .i64 0] 28))
                          have HN7 := hid (Blk.new w7 #[.string ⟨#[]⟩, .int .i64 0, .string ⟨#[]⟩, .int .i64 0] 28)
                          have hws : wr.heap.size ≤ wc.heap.size := HRd.out.size
                          have hb7 : wc.heap.size ≤ w7.heap.size := hb.size
                          have e7 := hid ((((Below.refl wc.heap.size wc).trans hb).alloc hb.size (.cells #[.string ⟨#[]⟩, .int .i64 0, .string ⟨#[]⟩, .int .i64 0] 28)).cell (p := ⟨bs, os + k * 2, none⟩) (show bs < _ by omega) |>.trans e0d.out)
                          have xx1 := ((HKd.out.to hb).2 1 _ rfl).1
                          have zz1 := ((KZ.out.to hb).2 1 _ rfl).1
                          have hbx7 : bx < w7.heap.size := by omega
                          have hbz7 : bz < w7.heap.size := (KZ.out.to hb).1
                          clear hb x0 x1 x2 x3 z0 z1 z2
                          go_wp2_with fail
                          clear xx1 zz1
                          generalize hw8 : w7.alloc (.cells #[.string ⟨#[]⟩, .int .i64 0, .string ⟨#[]⟩, .int .i64 0] 28) = w8 at *
                          have h8s : w8.heap.size = w7.heap.size + 1 := by rw [← hw8]; simp
                          generalize hbn : w7.heap.size = bn at *
                          have hwz : wr.heap.size ≤ bn := by omega
                          have h8b : w5.heap.size ≤ w8.heap.size := by have := HX8.out; omega
                          obtain ⟨v', w4, hrun, ho4, hg4, hloc⟩ := runReason w8 w5.heap.size _ x HO7.out 5 lg p (by omega) h8b
                          have HR9 := hid hrun
                          have HO9 := hid ho4
                          have H9 := hid ((below_of_grown hg4 h8b (own_lt HO7.out)).size)
                          have HA9 := hid (apart_kept HS7.out HA.out hg4 hloc)
                          have HB9 := hid (HB7.out.grown hg4 HB7.out.size (fun z hz => by have := own_lt HO7.out z hz; have := HB5.out.size; omega))
                          have HK9 := hid (HK7.out.kept hg4 (fun e => HX.out bx e.symm rfl))
                          have HT9 := hid (HT7.out.kept hg4 (fun e => by have := own_lt HO7.out _ e.symm; have := HT5.out.1; omega))
                          have HZ9 := hid (HZ7.out.kept hg4 (fun e => by have := hAxz.out bz e.symm; omega))
                          have HN9 := hid (HN7.out.kept hg4 (fun e => by have := hAxz.out bn e.symm; omega))
                          have HX9 := hid (show ∀ z, v'.ownBlock = some z → z ≠ bx from fun z hz => by
                            rcases hloc with h | h
                            · exact HX.out z (h.symm.trans hz)
                            · rw [h] at hz
                              have h1 : w8.heap.size + 1 = z := by simpa using hz
                              omega)
                          have hnebs : some bs ≠ (Value.slice Ax x.length cx).ownBlock := fun e => HA.out bs e.symm rfl
                          have hbs8 : bs < w8.heap.size := by omega
                          have hbz8 : bz < w8.heap.size := HZ7.out.1
                          have hbn8 : bn < w8.heap.size := HN7.out.1
                          have e9 : w4.cell? ⟨bs, os + k * 2, none⟩ = some (.string lg) := (World.cell?_of_block (a := ⟨bs, os + k * 2, none⟩) (by first | exact hg4.block bs hbs8 hnebs | exact hg4.block bs hbs8 (fun e => hnebs e.symm))).trans e7.out
                          have S4 := hid (And.intro e9 (HZ9.out.2 0 _ rfl).1)
                          have f0 := e7.out
                          have z0 := (HZ7.out.2 0 _ rfl).1

                          have HWB := hid (And.intro hbn (And.intro hw8 h8s))
                          clear e9 hrun ho4 hg4 hloc hnebs hw8 hbn h8s
                          go_wp2_with fail
                          go_region_held3 (fun w' => w'.cell? ⟨bs, os + k * 2, none⟩ = some (.string lg) ∧ w'.cell? ⟨bz, 0, none⟩ = some (.string p)) (first | go_keep | exact S4.out) (first | (refine wp_app rfl (by rfl) (by rfl) HR9.out ?_))
                          clear f0 z0
                          go_wp2_with fail
                          go_roundw
                          case rel => exact ⟨k + 1, g', _, by go_num, by omega, hp1, hp2, HST'.out.2, HST'.out.1.symm, by rw [List.length_append]; show x.length + 1 ≤ _; omega, HO9.out, HA9.out.1, HA9.out.2, HX9.out, HK9.out, HT9.out, HB9.out, Nat.le_trans h8b H9.out⟩
                          case measure => simp [intOf]; omega
                        · rw [K2.out (by omega) hfi] at HST
                          clear HF1 CFh hfi
                          have HST' := hid (show whyOf (outs H nm.data.toList tx.data.toList (sp.take (k + 1)) g) = x ++ [⟨6, lg.data.toList, p.data.toList⟩] ∧ lvAfter H nm.data.toList tx.data.toList (sp.take (k + 1)) g = g' from ⟨by rw [HST.out.1, HXk.out]; first | done | rfl, HST.out.2⟩)
                          go_wp2_with fail
                          refine (HF2.out).mono ?_
                          rintro e w7 ⟨rfl, hb⟩
                          have HB7 := hid ((HBd.out.trans (hb.mono HBd.out.size)).alloc (Nat.le_trans HBd.out.size hb.size) (.cells #[.string ⟨#[]⟩, .int .i64 0, .string ⟨#[]⟩, .int .i64 0] 28))
                          have HO7 := hid ((own_below HOd.out hb).alloc (.cells #[.string ⟨#[]⟩, .int .i64 0, .string ⟨#[]⟩, .int .i64 0] 28))
                          have HS7 := hid ((own_below HSd.out hb).alloc (.cells #[.string ⟨#[]⟩, .int .i64 0, .string ⟨#[]⟩, .int .i64 0] 28))
                          have HK7 := hid ((HKd.out.to hb).alloc (.cells #[.string ⟨#[]⟩, .int .i64 0, .string ⟨#[]⟩, .int .i64 0] 28))
                          have HT7 := hid ((HTd.out.to hb).alloc (.cells #[.string ⟨#[]⟩, .int .i64 0, .string ⟨#[]⟩, .int .i64 0] 28))
                          have HZ7 := hid ((KZ.out.to hb).alloc (.cells #[.string ⟨#[]⟩, .int .i64 0, .string ⟨#[]⟩, .int .i64 0] 28))
                          have HN7 := hid (Blk.new w7 #[.string ⟨#[]⟩, .int .i64 0, .string ⟨#[]⟩, .int .i64 0] 28)
                          have hws : wr.heap.size ≤ wc.heap.size := HRd.out.size
                          have hb7 : wc.heap.size ≤ w7.heap.size := hb.size
                          have e7 := hid ((((Below.refl wc.heap.size wc).trans hb).alloc hb.size (.cells #[.string ⟨#[]⟩, .int .i64 0, .string ⟨#[]⟩, .int .i64 0] 28)).cell (p := ⟨bs, os + k * 2, none⟩) (show bs < _ by omega) |>.trans e0d.out)
                          have xx1 := ((HKd.out.to hb).2 1 _ rfl).1
                          have zz1 := ((KZ.out.to hb).2 1 _ rfl).1
                          have hbx7 : bx < w7.heap.size := by omega
                          have hbz7 : bz < w7.heap.size := (KZ.out.to hb).1
                          clear hb x0 x1 x2 x3 z0 z1 z2
                          go_wp2_with fail
                          clear xx1 zz1
                          generalize hw8 : w7.alloc (.cells #[.string ⟨#[]⟩, .int .i64 0, .string ⟨#[]⟩, .int .i64 0] 28) = w8 at *
                          have h8s : w8.heap.size = w7.heap.size + 1 := by rw [← hw8]; simp
                          generalize hbn : w7.heap.size = bn at *
                          have hwz : wr.heap.size ≤ bn := by omega
                          have h8b : w5.heap.size ≤ w8.heap.size := by have := HX8.out; omega
                          obtain ⟨v', w4, hrun, ho4, hg4, hloc⟩ := runReason w8 w5.heap.size _ x HO7.out 6 lg p (by omega) h8b
                          have HR9 := hid hrun
                          have HO9 := hid ho4
                          have H9 := hid ((below_of_grown hg4 h8b (own_lt HO7.out)).size)
                          have HA9 := hid (apart_kept HS7.out HA.out hg4 hloc)
                          have HB9 := hid (HB7.out.grown hg4 HB7.out.size (fun z hz => by have := own_lt HO7.out z hz; have := HB5.out.size; omega))
                          have HK9 := hid (HK7.out.kept hg4 (fun e => HX.out bx e.symm rfl))
                          have HT9 := hid (HT7.out.kept hg4 (fun e => by have := own_lt HO7.out _ e.symm; have := HT5.out.1; omega))
                          have HZ9 := hid (HZ7.out.kept hg4 (fun e => by have := hAxz.out bz e.symm; omega))
                          have HN9 := hid (HN7.out.kept hg4 (fun e => by have := hAxz.out bn e.symm; omega))
                          have HX9 := hid (show ∀ z, v'.ownBlock = some z → z ≠ bx from fun z hz => by
                            rcases hloc with h | h
                            · exact HX.out z (h.symm.trans hz)
                            · rw [h] at hz
                              have h1 : w8.heap.size + 1 = z := by simpa using hz
                              omega)
                          have hnebs : some bs ≠ (Value.slice Ax x.length cx).ownBlock := fun e => HA.out bs e.symm rfl
                          have hbs8 : bs < w8.heap.size := by omega
                          have hbz8 : bz < w8.heap.size := HZ7.out.1
                          have hbn8 : bn < w8.heap.size := HN7.out.1
                          have e9 : w4.cell? ⟨bs, os + k * 2, none⟩ = some (.string lg) := (World.cell?_of_block (a := ⟨bs, os + k * 2, none⟩) (by first | exact hg4.block bs hbs8 hnebs | exact hg4.block bs hbs8 (fun e => hnebs e.symm))).trans e7.out
                          have S4 := hid (And.intro e9 (HZ9.out.2 0 _ rfl).1)
                          have f0 := e7.out
                          have z0 := (HZ7.out.2 0 _ rfl).1

                          have HWB := hid (And.intro hbn (And.intro hw8 h8s))
                          clear e9 hrun ho4 hg4 hloc hnebs hw8 hbn h8s
                          go_wp2_with fail
                          go_region_held3 (fun w' => w'.cell? ⟨bs, os + k * 2, none⟩ = some (.string lg) ∧ w'.cell? ⟨bz, 0, none⟩ = some (.string p)) (first | go_keep | exact S4.out) (first | (refine wp_app rfl (by rfl) (by rfl) HR9.out ?_))
                          clear f0 z0
                          go_wp2_with fail
                          go_roundw
                          case rel => exact ⟨k + 1, g', _, by go_num, by omega, hp1, hp2, HST'.out.2, HST'.out.1.symm, by rw [List.length_append]; show x.length + 1 ≤ _; omega, HO9.out, HA9.out.1, HA9.out.2, HX9.out, HK9.out, HT9.out, HB9.out, Nat.le_trans h8b H9.out⟩
                          case measure => simp [intOf]; omega
                      | some ga =>
                        rw [hfi] at HF1
                        have HF2 := hid (show Calls _ _ _ _ (fun e w' => e = .returned (.tuple #[.agg #[.string nm, .int .i64 ga, .string tx, .int .i64 sq], .bool true]) ∧ Below wc.heap.size wc w') from HF1)
                        by_cases hq : g' < hl
                        · rw [K1.out hq] at HST
                          clear HF1 CFh hfi
                          have HST' := hid (show whyOf (outs H nm.data.toList tx.data.toList (sp.take (k + 1)) g) = x ++ [⟨5, lg.data.toList, p.data.toList⟩] ∧ lvAfter H nm.data.toList tx.data.toList (sp.take (k + 1)) g = g' from ⟨by rw [HST.out.1, HXk.out]; first | done | rfl, HST.out.2⟩)
                          go_wp2_with fail
                          refine (HF2.out).mono ?_
                          rintro e w7 ⟨rfl, hb⟩
                          have HB7 := hid ((HBd.out.trans (hb.mono HBd.out.size)).alloc (Nat.le_trans HBd.out.size hb.size) (.cells #[.string nm, .int .i64 ga, .string tx, .int .i64 sq] 28))
                          have HO7 := hid ((own_below HOd.out hb).alloc (.cells #[.string nm, .int .i64 ga, .string tx, .int .i64 sq] 28))
                          have HS7 := hid ((own_below HSd.out hb).alloc (.cells #[.string nm, .int .i64 ga, .string tx, .int .i64 sq] 28))
                          have HK7 := hid ((HKd.out.to hb).alloc (.cells #[.string nm, .int .i64 ga, .string tx, .int .i64 sq] 28))
                          have HT7 := hid ((HTd.out.to hb).alloc (.cells #[.string nm, .int .i64 ga, .string tx, .int .i64 sq] 28))
                          have HZ7 := hid ((KZ.out.to hb).alloc (.cells #[.string nm, .int .i64 ga, .string tx, .int .i64 sq] 28))
                          have HN7 := hid (Blk.new w7 #[.string nm, .int .i64 ga, .string tx, .int .i64 sq] 28)
                          have hws : wr.heap.size ≤ wc.heap.size := HRd.out.size
                          have hb7 : wc.heap.size ≤ w7.heap.size := hb.size
                          have e7 := hid ((((Below.refl wc.heap.size wc).trans hb).alloc hb.size (.cells #[.string nm, .int .i64 ga, .string tx, .int .i64 sq] 28)).cell (p := ⟨bs, os + k * 2, none⟩) (show bs < _ by omega) |>.trans e0d.out)
                          have xx1 := ((HKd.out.to hb).2 1 _ rfl).1
                          have zz1 := ((KZ.out.to hb).2 1 _ rfl).1
                          have hbx7 : bx < w7.heap.size := by omega
                          have hbz7 : bz < w7.heap.size := (KZ.out.to hb).1
                          clear hb x0 x1 x2 x3 z0 z1 z2
                          go_wp2_with fail
                          clear xx1 zz1
                          generalize hw8 : w7.alloc (.cells #[.string nm, .int .i64 ga, .string tx, .int .i64 sq] 28) = w8 at *
                          have h8s : w8.heap.size = w7.heap.size + 1 := by rw [← hw8]; simp
                          generalize hbn : w7.heap.size = bn at *
                          have hwz : wr.heap.size ≤ bn := by omega
                          have h8b : w5.heap.size ≤ w8.heap.size := by have := HX8.out; omega
                          obtain ⟨v', w4, hrun, ho4, hg4, hloc⟩ := runReason w8 w5.heap.size _ x HO7.out 5 lg p (by omega) h8b
                          have HR9 := hid hrun
                          have HO9 := hid ho4
                          have H9 := hid ((below_of_grown hg4 h8b (own_lt HO7.out)).size)
                          have HA9 := hid (apart_kept HS7.out HA.out hg4 hloc)
                          have HB9 := hid (HB7.out.grown hg4 HB7.out.size (fun z hz => by have := own_lt HO7.out z hz; have := HB5.out.size; omega))
                          have HK9 := hid (HK7.out.kept hg4 (fun e => HX.out bx e.symm rfl))
                          have HT9 := hid (HT7.out.kept hg4 (fun e => by have := own_lt HO7.out _ e.symm; have := HT5.out.1; omega))
                          have HZ9 := hid (HZ7.out.kept hg4 (fun e => by have := hAxz.out bz e.symm; omega))
                          have HN9 := hid (HN7.out.kept hg4 (fun e => by have := hAxz.out bn e.symm; omega))
                          have HX9 := hid (show ∀ z, v'.ownBlock = some z → z ≠ bx from fun z hz => by
                            rcases hloc with h | h
                            · exact HX.out z (h.symm.trans hz)
                            · rw [h] at hz
                              have h1 : w8.heap.size + 1 = z := by simpa using hz
                              omega)
                          have hnebs : some bs ≠ (Value.slice Ax x.length cx).ownBlock := fun e => HA.out bs e.symm rfl
                          have hbs8 : bs < w8.heap.size := by omega
                          have hbz8 : bz < w8.heap.size := HZ7.out.1
                          have hbn8 : bn < w8.heap.size := HN7.out.1
                          have e9 : w4.cell? ⟨bs, os + k * 2, none⟩ = some (.string lg) := (World.cell?_of_block (a := ⟨bs, os + k * 2, none⟩) (by first | exact hg4.block bs hbs8 hnebs | exact hg4.block bs hbs8 (fun e => hnebs e.symm))).trans e7.out
                          have S4 := hid (And.intro e9 (HZ9.out.2 0 _ rfl).1)
                          have f0 := e7.out
                          have z0 := (HZ7.out.2 0 _ rfl).1

                          have HWB := hid (And.intro hbn (And.intro hw8 h8s))
                          clear e9 hrun ho4 hg4 hloc hnebs hw8 hbn h8s
                          go_wp2_with fail
                          go_region_held3 (fun w' => w'.cell? ⟨bs, os + k * 2, none⟩ = some (.string lg) ∧ w'.cell? ⟨bz, 0, none⟩ = some (.string p)) (first | go_keep | exact S4.out) (first | (refine wp_app rfl (by rfl) (by rfl) HR9.out ?_))
                          clear f0 z0
                          go_wp2_with fail
                          go_roundw
                          case rel => exact ⟨k + 1, g', _, by go_num, by omega, hp1, hp2, HST'.out.2, HST'.out.1.symm, by rw [List.length_append]; show x.length + 1 ≤ _; omega, HO9.out, HA9.out.1, HA9.out.2, HX9.out, HK9.out, HT9.out, HB9.out, Nat.le_trans h8b H9.out⟩
                          case measure => simp [intOf]; omega
                        · rw [K3.out ga (by omega) hfi] at HST hrg
                          obtain ⟨a1, a2⟩ : 1 ≤ ga ∧ ga ≤ 60 := hrg
                          clear HF1 CFh hfi
                          have HST' := hid (show whyOf (outs H nm.data.toList tx.data.toList (sp.take (k + 1)) g) = x ++ [⟨0, lg.data.toList, p.data.toList⟩] ∧ lvAfter H nm.data.toList tx.data.toList (sp.take (k + 1)) g = ga from ⟨by rw [HST.out.1, HXk.out]; first | done | rfl, HST.out.2⟩)
                          go_wp2_with fail
                          refine (HF2.out).mono ?_
                          rintro e w7 ⟨rfl, hb⟩
                          have HB7 := hid ((HBd.out.trans (hb.mono HBd.out.size)).alloc (Nat.le_trans HBd.out.size hb.size) (.cells #[.string nm, .int .i64 ga, .string tx, .int .i64 sq] 28))
                          have HO7 := hid ((own_below HOd.out hb).alloc (.cells #[.string nm, .int .i64 ga, .string tx, .int .i64 sq] 28))
                          have HS7 := hid ((own_below HSd.out hb).alloc (.cells #[.string nm, .int .i64 ga, .string tx, .int .i64 sq] 28))
                          have HK7 := hid ((HKd.out.to hb).alloc (.cells #[.string nm, .int .i64 ga, .string tx, .int .i64 sq] 28))
                          have HT7 := hid ((HTd.out.to hb).alloc (.cells #[.string nm, .int .i64 ga, .string tx, .int .i64 sq] 28))
                          have HZ7 := hid ((KZ.out.to hb).alloc (.cells #[.string nm, .int .i64 ga, .string tx, .int .i64 sq] 28))
                          have HN7 := hid (Blk.new w7 #[.string nm, .int .i64 ga, .string tx, .int .i64 sq] 28)
                          have hws : wr.heap.size ≤ wc.heap.size := HRd.out.size
                          have hb7 : wc.heap.size ≤ w7.heap.size := hb.size
                          have e7 := hid ((((Below.refl wc.heap.size wc).trans hb).alloc hb.size (.cells #[.string nm, .int .i64 ga, .string tx, .int .i64 sq] 28)).cell (p := ⟨bs, os + k * 2, none⟩) (show bs < _ by omega) |>.trans e0d.out)
                          have xx1 := ((HKd.out.to hb).2 1 _ rfl).1
                          have zz1 := ((KZ.out.to hb).2 1 _ rfl).1
                          have hbx7 : bx < w7.heap.size := by omega
                          have hbz7 : bz < w7.heap.size := (KZ.out.to hb).1
                          clear hb x0 x1 x2 x3 z0 z1 z2
                          go_wp2_with fail
                          clear xx1 zz1
                          generalize hw8 : w7.alloc (.cells #[.string nm, .int .i64 ga, .string tx, .int .i64 sq] 28) = w8 at *
                          have h8s : w8.heap.size = w7.heap.size + 1 := by rw [← hw8]; simp
                          generalize hbn : w7.heap.size = bn at *
                          have hwz : wr.heap.size ≤ bn := by omega
                          have h8b : w5.heap.size ≤ w8.heap.size := by have := HX8.out; omega
                          obtain ⟨v', w4, hrun, ho4, hg4, hloc⟩ := runReason w8 w5.heap.size _ x HO7.out 0 lg p (by omega) h8b
                          have HR9 := hid hrun
                          have HO9 := hid ho4
                          have H9 := hid ((below_of_grown hg4 h8b (own_lt HO7.out)).size)
                          have HA9 := hid (apart_kept HS7.out HA.out hg4 hloc)
                          have HB9 := hid (HB7.out.grown hg4 HB7.out.size (fun z hz => by have := own_lt HO7.out z hz; have := HB5.out.size; omega))
                          have HK9 := hid (HK7.out.kept hg4 (fun e => HX.out bx e.symm rfl))
                          have HT9 := hid (HT7.out.kept hg4 (fun e => by have := own_lt HO7.out _ e.symm; have := HT5.out.1; omega))
                          have HZ9 := hid (HZ7.out.kept hg4 (fun e => by have := hAxz.out bz e.symm; omega))
                          have HN9 := hid (HN7.out.kept hg4 (fun e => by have := hAxz.out bn e.symm; omega))
                          have HX9 := hid (show ∀ z, v'.ownBlock = some z → z ≠ bx from fun z hz => by
                            rcases hloc with h | h
                            · exact HX.out z (h.symm.trans hz)
                            · rw [h] at hz
                              have h1 : w8.heap.size + 1 = z := by simpa using hz
                              omega)
                          have hnebs : some bs ≠ (Value.slice Ax x.length cx).ownBlock := fun e => HA.out bs e.symm rfl
                          have hbs8 : bs < w8.heap.size := by omega
                          have hbz8 : bz < w8.heap.size := HZ7.out.1
                          have hbn8 : bn < w8.heap.size := HN7.out.1
                          have e9 : w4.cell? ⟨bs, os + k * 2, none⟩ = some (.string lg) := (World.cell?_of_block (a := ⟨bs, os + k * 2, none⟩) (by first | exact hg4.block bs hbs8 hnebs | exact hg4.block bs hbs8 (fun e => hnebs e.symm))).trans e7.out
                          have S4 := hid (And.intro e9 (And.intro (HZ9.out.2 0 _ rfl).1 (And.intro (HN9.out.2 0 _ rfl).1 (And.intro (HN9.out.2 1 _ rfl).1 (And.intro (HN9.out.2 2 _ rfl).1 (HN9.out.2 3 _ rfl).1)))))
                          have f0 := e7.out
                          have z0 := (HZ7.out.2 0 _ rfl).1
                          have y0 := (HN7.out.2 0 _ rfl).1
                          have y1 := (HN7.out.2 1 _ rfl).1
                          have y2 := (HN7.out.2 2 _ rfl).1
                          have y3 := (HN7.out.2 3 _ rfl).1
                          have HWB := hid (And.intro hbn (And.intro hw8 h8s))
                          clear e9 hrun ho4 hg4 hloc hnebs hw8 hbn h8s
                          go_wp2_with fail
                          go_region_held3 (fun w' => w'.cell? ⟨bs, os + k * 2, none⟩ = some (.string lg) ∧ w'.cell? ⟨bz, 0, none⟩ = some (.string p) ∧ w'.cell? ⟨bn, 0, none⟩ = some (.string nm) ∧ w'.cell? ⟨bn, 1, none⟩ = some (.int .i64 ga) ∧ w'.cell? ⟨bn, 2, none⟩ = some (.string tx) ∧ w'.cell? ⟨bn, 3, none⟩ = some (.int .i64 sq)) (first | go_keep | exact S4.out) (first | (refine wp_app rfl (by rfl) (by rfl) HR9.out ?_))
                          clear f0 z0 y0 y1 y2 y3
                          have y0 := (HN9.out.2 0 _ rfl).1
                          have y1 := (HN9.out.2 1 _ rfl).1
                          have y2 := (HN9.out.2 2 _ rfl).1
                          have y3 := (HN9.out.2 3 _ rfl).1
                          go_wp2_with (refine wpList_stB (P := Tryz.prog) rfl 28 _ _ rfl bx [.string nm, .int .i64 ga, .string tx, .int .i64 sq] rfl rfl _ HK9.out rfl (by kernel_rfl) (List.all_eq_true.1 rfl) ?_)
                          intro w6 hk6 hg6 hs6
                          have HK6 := hid hk6
                          have HO6 := hid (own_keptX HO9.out hg6 HX9.out)
                          have HS6 := hid (own_keptX HA9.out.1 hg6 (fun z hz => by have := own_lt HA9.out.1 z hz; omega))
                          have HT6 := hid (HT9.out.kept hg6 (by simp; omega))
                          have HB6 := hid (HB9.out.grown hg6 HB9.out.size (by intro z hz; cases hz; omega))
                          have H96 := hid (show w5.heap.size ≤ w6.heap.size by rw [hs6]; exact Nat.le_trans h8b H9.out)
                          clear hk6 hg6 hs6 y0 y1 y2 y3
                          go_wp2_with fail
                          go_roundw
                          case rel => exact ⟨k + 1, ga, _, by go_num, by omega, a1, a2, HST'.out.2, HST'.out.1.symm, by rw [List.length_append]; show x.length + 1 ≤ _; omega, HO6.out, HS6.out, HA9.out.2, HX9.out, HK6.out, HT6.out, HB6.out, H96.out⟩
                          case measure => simp [intOf]; omega
                  · have HF := hid (show Y = x by rw [HE.out, HSP.out, HXk.out, List.take_of_length_le (by have := HNS.out; omega)])
                    go_wp2_with fail
                    go_ret
                    exact ⟨_, rfl, by rw [HF.out]; exact own_base HO.out HB5.out.size, HB.out⟩
end Go.Proofs.YtioegkcekbkblaaGreat
