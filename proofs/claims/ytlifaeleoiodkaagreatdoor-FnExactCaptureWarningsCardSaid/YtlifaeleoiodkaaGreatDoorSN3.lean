/-
  RECORDS SENT: the program's outcomesOf. By gen_sn3.py.
-/
import Derived.Test.YtlifaeleoiodkaaGreatDoorSN2
namespace Go.Proofs.YtlifaeleoiodkaaGreatDoor
open Go.RowKit Go.Proofs.YtlifaeleoiodkaaGreatDoor.Nm
set_option linter.unusedSimpArgs false
set_option linter.unusedVariables false

theorem MapP.same {w w' : World} {b n : Nat} {g : List UInt8 → Option Value} (h : MapP w b n g) (e : w'.heap[b]? = w.heap[b]?) : MapP w' b n g := by
  obtain ⟨D, h1, ⟨es, clock, h2, h4⟩, h3⟩ := h
  exact ⟨D, h1, ⟨es, clock, e.trans h2, h4⟩, h3⟩
theorem lt_of_some {w : World} {b : Nat} {x : Obj} (h : w.heap[b]? = some x) : b < w.heap.size := (Array.getElem?_eq_some_iff.1 h).1
theorem Blk.same {w w' : World} {b : Nat} {cs : List Value} (h : Blk w b cs) (e : w'.heap[b]? = w.heap[b]?) : Blk w' b cs := by
  have hl : b < w'.heap.size := by
    obtain ⟨x, hx⟩ : ∃ x, w.heap[b]? = some x := ⟨_, Array.getElem?_eq_getElem h.1⟩
    exact lt_of_some (e.trans hx)
  refine ⟨hl, fun j u hu => ⟨(World.cell?_of_block (a := ⟨b, j, none⟩) e).trans (h.2 j u hu).1, (World.frozen?_of_block (a := ⟨b, j, none⟩) e).trans (h.2 j u hu).2⟩⟩
/-- memory below lo is as it was, but for one block -/
def Kept (w w' : World) (lo bk : Nat) : Prop := ∀ b, b < lo → b ≠ bk → w'.heap[b]? = w.heap[b]?
theorem Kept.refl (w : World) (lo bk : Nat) : Kept w w lo bk := fun _ _ _ => rfl
theorem Kept.below {w w' w2 : World} {lo bk : Nat} (h : Kept w w' lo bk) (hb : Below lo w' w2) : Kept w w2 lo bk := fun b h1 h2 => (hb.block b h1).trans (h b h1 h2)
theorem Kept.grown {w w' w2 : World} {lo bk : Nat} (h : Kept w w' lo bk) (hg : w'.grownBy w2 (some bk)) (hl : lo ≤ w'.heap.size) : Kept w w2 lo bk := fun b h1 h2 => (hg.block b (by omega) (by simpa using h2)).trans (h b h1 h2)

theorem tkF_spec (ns : List (List UInt8)) (b0 : Nat) (nb : Nat → Nat) (k : Nat) (l : List UInt8) :
    (∃ j, j < k ∧ ns.getD j [] = l ∧ tkF ns b0 nb k l = some (clo (nb j))) ∨ ((∀ j, j < k → ns.getD j [] ≠ l) ∧ tkF ns b0 nb k l = if l = lastL then some (clo b0) else none) := by
  induction k with
  | zero => exact .inr ⟨fun j hj => by omega, rfl⟩
  | succ k ih =>
    by_cases e : l = ns.getD k []
    · exact .inl ⟨k, by omega, e.symm, by simp only [tkF]; rw [if_pos e]⟩
    · rcases ih with ⟨j, h1, h2, h3⟩ | ⟨h1, h2⟩
      · exact .inl ⟨j, by omega, h2, by simp only [tkF]; rw [if_neg e]; exact h3⟩
      · refine .inr ⟨fun j hj => ?_, by simp only [tkF]; rw [if_neg e]; exact h2⟩
        by_cases ej : j = k
        · subst ej; exact fun e2 => e e2.symm
        · exact h1 j (by omega)
theorem find_at {H : List Hnd} (hn : (H.map (·.nm)).Nodup) {j : Nat} {h : Hnd} (hj : H[j]? = some h) : H.find? (fun x => decide (x.nm = h.nm)) = some h := by
  induction H generalizing j with
  | nil => simp at hj
  | cons a t ih =>
    rw [List.map_cons, List.nodup_cons] at hn
    cases j with
    | zero =>
      simp only [List.getElem?_cons_zero, Option.some.injEq] at hj
      subst hj
      simp
    | succ j =>
      simp only [List.getElem?_cons_succ] at hj
      have hne : a.nm ≠ h.nm := fun e => hn.1 (by rw [e]; exact List.mem_map.2 ⟨h, List.mem_of_getElem? hj, rfl⟩)
      rw [List.find?_cons, decide_eq_false hne]
      exact ih hn.2 hj
theorem hOf_at {H : List Hnd} (hn : (H.map (·.nm)).Nodup) {j : Nat} {h : Hnd} (hj : H[j]? = some h) : hOf H h.nm = h := by
  unfold hOf; rw [find_at hn hj]; rfl
theorem hOf_miss {H : List Hnd} {x : List UInt8} (h : ∀ y ∈ H, y.nm ≠ x) : hOf H x = lastH := by
  unfold hOf
  rw [List.find?_eq_none.2 (fun y hy => by simpa using h y hy)]; rfl
theorem zeroTaker (w : World) : (zeroValue 180).run Tryz.prog w = .ok .nilFunc w := by kernel_rfl
/-- what the map of takers says of a handler that is there, or of the last resort -/
theorem taker_at {w : World} {B n2 k2 : Nat} {A2 : Option Addr} {hs : List HndV} {H : List Hnd} {nb : Nat → Nat} {b0 : Nat} (hh : Hs w B n2 (.slice A2 n2 k2) hs) (hH : hsOf hs = H) (hn : (H.map (·.nm)).Nodup) (hl : ∀ y ∈ H, y.nm ≠ lastL)
    (w' : World) (h0 : Blk w' b0 [.string lastB, .int .i64 30, .slice none 0 0]) (hN : ∀ (j : Nat) (x : HndV), j < n2 → hs[j]? = some x → Blk w' (nb j) (hcells x)) (x : List UInt8) (hx : hasL H x = true ∨ x = lastL) :
    ∃ (bx : Nat) (hb : ByteArray) (A4 : Option Addr) (fn k4 : Nat), tkF (hnames hs) b0 nb n2 x = some (clo bx) ∧ Blk w' bx [.string hb, .int .i64 (hOf H x).lv, .slice A4 fn k4] ∧ Fs w B fn (.slice A4 fn k4) (hOf H x).fs ∧ (bx = b0 ∨ ∃ j y, j < n2 ∧ hs[j]? = some y ∧ bx = nb j) := by
  have hns : hnames hs = H.map (·.nm) := by rw [← hH]; simp [hnames, hsOf]
  have hlen : hs.length = n2 := Sl.count hcells_len hh.1 (by omega)
  rcases tkF_spec (hnames hs) b0 nb n2 x with ⟨j, h1, h2, h3⟩ | ⟨h1, h2⟩
  · obtain ⟨y, hy⟩ : ∃ y, hs[j]? = some y := ⟨_, List.getElem?_eq_getElem (by omega)⟩
    have hHy : H[j]? = some y.h := by rw [← hH]; simp [hsOf, hy]
    have hnm : y.h.nm = x := by rw [← h2]; simp [hnames, List.getD, hy]
    have hO : hOf H x = y.h := by rw [← hnm]; exact hOf_at hn hHy
    have hf := (hh.2 y (List.mem_of_getElem? hy)).2
    obtain ⟨A4, k4, e4, _, _⟩ := hf.1.form
    refine ⟨nb j, ⟨y.h.nm.toArray⟩, A4, y.fn, k4, h3, ?_, ?_, .inr ⟨j, y, h1, hy, rfl⟩⟩
    · have := hN j y h1 hy
      rw [hcells, e4] at this
      rw [hO]; exact this
    · rw [hO, ← e4]; exact hf
  · have hmiss : ∀ y ∈ H, y.nm ≠ x := fun y hy e => by
      obtain ⟨j, hj, ej⟩ := List.getElem_of_mem hy
      refine h1 j (by rw [← hlen]; rw [← hH] at hj; simpa [hsOf] using hj) ?_
      rw [hns]; simp [List.getD, hj, ej, e]
    rcases hx with hx | hx
    · exfalso
      unfold hasL at hx
      obtain ⟨y, hy, e⟩ := List.any_eq_true.1 hx
      exact hmiss y hy (by simpa using e)
    · rw [if_pos hx] at h2
      refine ⟨b0, lastB, none, 0, 0, h2, ?_, ?_, .inl rfl⟩
      · rw [hOf_miss hmiss]; exact h0
      · rw [hOf_miss hmiss]; exact Fs.none_ w B
/-- the spots of a valid tree are handlers of it -/
theorem spots_has {L : List Lgr} {H : List Hnd} {q : Int} (ht : treeOk L H q = true) (pl : List Nat) : ∀ s ∈ spotsI L pl, hasL H s.hd = true := by
  induction pl with
  | nil => intro s hs; cases hs
  | cons i r ih =>
    intro s hs
    unfold spotsI at hs
    rcases List.mem_append.1 hs with h | h
    · unfold ownS at h
      obtain ⟨x, hx, rfl⟩ := List.mem_map.1 h
      unfold hsAt at hx
      by_cases hi : i < L.length
      · have e : (L.map (·.hs)).getD i [] = L[i].hs := by simp [List.getD, hi]
        rw [e] at hx
        unfold treeOk lgrsOk at ht
        simp only [Bool.and_eq_true, List.all_eq_true] at ht
        have := ht.2.2.1 _ (List.getElem_mem hi)
        unfold lgrOk at this
        simp only [Bool.and_eq_true, List.all_eq_true] at this
        exact this.2.2.2.1 x hx
      · simp [List.getD, hi] at hx
    · split at h
      · cases h
      · exact ih s h
theorem spX_has {L : List Lgr} {H : List Hnd} {q : Int} (ht : treeOk L H q = true) (x : List UInt8) : ∀ s ∈ spX L x, hasL H s.hd = true ∨ s.hd = lastL := by
  intro s hs
  unfold spX at hs
  split at hs
  · rw [List.mem_singleton] at hs; subst hs; exact .inr rfl
  · exact .inl (spots_has ht _ s hs)
theorem own_kept {w w' : World} {base n sz b : Nat} {e : TypeId} {v : Value} {xs : List Value} (h : w.ownsRow base e sz v n xs) (hg : w.grownBy w' (some b)) (hb : b < base) : w'.ownsRow base e sz v n xs :=
  h.kept hg (by
    cases hq : v.ownBlock with
    | none => exact .inl rfl
    | some g => right; intro e; cases e; have := (h.lt _ hq).1; omega)
theorem word_short {l : List UInt8} (h : wordOk l = true) : l.length ≤ 4 := by unfold wordOk at h; simp only [Bool.and_eq_true, decide_eq_true_eq] at h; exact h.2.2
theorem spX_fit {L : List Lgr} {H : List Hnd} {q : Int} (ht : treeOk L H q = true) (x : List UInt8) : ∀ s ∈ spX L x, s.hd.length ≤ 1048576 := by
  intro s hs
  rcases spX_has ht x s hs with h | h
  · unfold hasL at h
    obtain ⟨y, hy, e⟩ := List.any_eq_true.1 h
    unfold treeOk hndsOk at ht
    simp only [Bool.and_eq_true, List.all_eq_true] at ht
    have := ht.2.1.1 y hy
    unfold hndOk at this
    simp only [Bool.and_eq_true] at this
    have h4 := word_short this.1
    have e2 : y.nm = s.hd := by simpa using e
    rw [← e2]; omega
  · rw [h]; decide
theorem tree_hnds {L : List Lgr} {H : List Hnd} {q : Int} (ht : treeOk L H q = true) : (H.map (·.nm)).Nodup ∧ (∀ y ∈ H, y.nm ≠ lastL) ∧ H.length ≤ 6 := by
  unfold treeOk hndsOk at ht
  simp only [Bool.and_eq_true, decide_eq_true_eq, List.all_eq_true] at ht
  refine ⟨ht.2.1.2.1, fun y hy => ?_, ht.2.1.2.2⟩
  have := ht.2.1.1 y hy
  unfold hndOk at this
  simp only [Bool.and_eq_true, Bool.not_eq_true', decide_eq_false_iff_not] at this
  exact this.2.1
theorem Tryz.infoOc : (Tryz.prog.info? 156).map (fun i => (i.zero, i.size, i.bytes)) = some (some (.agg #[.string ByteArray.empty, .string ByteArray.empty, .int .i64 0, .string ByteArray.empty, .int .i64 0, .string ByteArray.empty, .int .i64 0]), 7, 88) := by kernel_rfl
/-- append of one outcome -/
theorem appOc (w : World) {ops : Array Oper} {rest : List Oper} {o : Oper} {a : Act} {Q : Exit → Act → World → Prop} (hg : o.guard = none) (s x : Operand)
    (ho : o.op = .call { callee := .builtin .append, args := #[s, x], argTypes := #[153, 153] }) (base : Nat) (v : Value) (nm tx : ByteArray) (sq : Int) (l : List Oc) (hs : a.eval s = v)
    (hown : w.ownsRow base 156 7 v l.length (l.flatMap (occells nm.data.toList tx.data.toList sq))) (lg hd : ByteArray) (kd lv : Int) (b0 c : Nat) (te : TypeId) (hx : a.eval x = .slice (some ⟨b0, 0, none⟩) 1 c) (hb0 : b0 = w.heap.size) (hl : l.length ≤ 1048576) (hbase : base ≤ w.heap.size)
    (h : ∀ v' w', w'.ownsRow base 156 7 v' (l ++ [(⟨lg.data.toList, hd.data.toList, kd, lv⟩ : Oc)]).length ((l ++ [(⟨lg.data.toList, hd.data.toList, kd, lv⟩ : Oc)]).flatMap (occells nm.data.toList tx.data.toList sq)) → Below base w w' → wpList Tryz.prog ops Q rest (a.put o.dst v') w') :
    wpList Tryz.prog ops Q (o :: rest) a (w.alloc (.cells #[.string lg, .string hd, .int .i64 kd, .string nm, .int .i64 lv, .string tx, .int .i64 sq] te)) := by
  subst hb0
  obtain ⟨i0, hi, hz0, hz1, hz2⟩ := info_parts Tryz.infoOc
  refine wpList_app1 w hg s x 153 ho base 156 i0 _ 7 88 Tryz.underlying153 hi hz0 hz1 hz2 rfl (by decide) v l.length _ hs hown [.string lg, .string hd, .int .i64 kd, .string nm, .int .i64 lv, .string tx, .int .i64 sq] c te hx rfl (List.all_eq_true.1 rfl) (by unfold maxLen; omega) (by omega) hbase fun v' w' h1 h2 => h v' w' ?_ h2
  simpa [occells, txt_data] using h1
def OcPost (w : World) (nm tx : ByteArray) (sq : Int) (l : List Oc) : Ending → World → Prop := RowPost w 156 7 l.length (l.flatMap (occells nm.data.toList tx.data.toList sq))

set_option maxHeartbeats 8000000 in
set_option maxRecDepth 100000 in
theorem outcomesOf_c {w : World} {B : Nat} {v : Value} {L : List Lgr} {H : List Hnd} {q : Int} (nm tx : ByteArray) (lv sq : Int) (h : TreeIn w B v L H q) (hB : B ≤ w.heap.size) (hnm : nm.size ≤ 1048576) (htx : tx.size ≤ 1048576) :
    Calls Tryz.prog 103 #[v, .agg #[.string nm, .int .i64 lv, .string tx, .int .i64 sq]] w (OcPost w nm tx sq (ocX L H q ⟨nm.data.toList, lv, tx.data.toList, sq⟩)) := by
  have CV := fun (W : World) (hW : Below w.heap.size w W) => implValidTreeX_c (h.below hW hB) (Nat.le_trans hB hW.size)
  have CR := hid (fun (W : World) => implValidRecord_c nm tx lv sq W hnm htx)
  cases hz : treeOk L H q with
  | false =>
    obtain ⟨A1, n1, k1, A2, n2, k2, rfl⟩ := h.form
    rw [hz] at CV
    replace CV := hid CV
    have HE := hid (show ocX L H q ⟨nm.data.toList, lv, tx.data.toList, sq⟩ = [] by unfold ocX; rw [hz]; rfl)
    have HB0 := hid (show Below w.heap.size w ((w.alloc (.cells #[.slice A1 n1 k1, .slice A2 n2 k2, .int .i64 q] 36)).alloc (.cells #[.string nm, .int .i64 lv, .string tx, .int .i64 sq] 61)) by go_grown)
    clear h hz CR
    go_enter Tryz.func103, Tryz.ntmps103
    go_wp2_with fail
    refine (CV.out _ HB0.out).mono ?_
    rintro e w1 ⟨rfl, hb⟩
    have HB1 := hid (HB0.out.trans (hb.mono HB0.out.size))
    clear hb
    go_wp2_with fail
    go_ret
    exact ⟨_, rfl, by rw [HE.out]; exact World.ownsRow_nil _ _ _ _, HB1.out⟩
  | true =>
    have CE := fun (hr : recOk ⟨nm.data.toList, lv, tx.data.toList, sq⟩ = true) (W : World) (hW : Below w.heap.size w W) => enter_c nm tx lv sq (h.below hW hB) (Nat.le_trans hB hW.size) hz hr hnm htx
    have CS := hid (fun (W : World) (hW : Below w.heap.size w W) => implSpotsOf_c nm (h.below hW hB) (Nat.le_trans hB hW.size) (by unfold maxLen; omega))
    obtain ⟨b, o, n1, k1, A2, n2, k2, ls, rfl, -, -, -, -, -, -, -⟩ := h.opened hz
    obtain ⟨hs, hh, hH⟩ := h.hands
    obtain ⟨hnd, hnl, hn6⟩ := tree_hnds hz
    have hn2 : n2 ≤ 6 := by have := Sl.count hcells_len hh.1 (by omega); rw [← hH] at hn6; simp [hsOf] at hn6; omega
    have CT := hid (fun (W : World) (hW : Below w.heap.size w W) => takersOf_c (.slice A2 n2 k2) n2 B hs W (hh.below hW hB) (Nat.le_trans hB hW.size) hn2)
    rw [hz] at CV
    replace CV := hid CV
    have HB0 := hid (show Below w.heap.size w ((w.alloc (.cells #[.slice (some ⟨b, o, none⟩) n1 k1, .slice A2 n2 k2, .int .i64 q] 36)).alloc (.cells #[.string nm, .int .i64 lv, .string tx, .int .i64 sq] 61)) by go_grown)
    have HT0 := hid ((Blk.new w #[.slice (some ⟨b, o, none⟩) n1 k1, .slice A2 n2 k2, .int .i64 q] 36).alloc (.cells #[.string nm, .int .i64 lv, .string tx, .int .i64 sq] 61))
    have HK0 := hid (Blk.new (w.alloc (.cells #[.slice (some ⟨b, o, none⟩) n1 k1, .slice A2 n2 k2, .int .i64 q] 36)) #[.string nm, .int .i64 lv, .string tx, .int .i64 sq] 61)
    simp only [World.size_alloc] at HK0
    have HZ := hid hz
    cases hr : recOk ⟨nm.data.toList, lv, tx.data.toList, sq⟩ with
    | false =>
      rw [hr] at CR
      have HE := hid (show ocX L H q ⟨nm.data.toList, lv, tx.data.toList, sq⟩ = [] by unfold ocX; rw [hz, hr]; rfl)
      clear h hz hr CE hh hH hnd hnl hn6
      go_enter Tryz.func103, Tryz.ntmps103
      go_wp2_with fail
      refine (CV.out _ HB0.out).mono ?_
      rintro e w1 ⟨rfl, hb⟩
      have HB1 := hid (HB0.out.trans (hb.mono HB0.out.size))
      have HK1 := hid (HK0.out.to hb)
      clear hb
      have d0 := (HK1.out.2 0 _ rfl).1
      have d1 := (HK1.out.2 1 _ rfl).1
      have d2 := (HK1.out.2 2 _ rfl).1
      have d3 := (HK1.out.2 3 _ rfl).1
      go_wp2_with fail
      refine (CR.out _).mono ?_
      rintro e w2 ⟨rfl, hb⟩
      have HB2 := hid (HB1.out.trans (hb.mono HB1.out.size))
      clear hb d0 d1 d2 d3
      go_wp2_with fail
      go_ret
      exact ⟨_, rfl, by rw [HE.out]; exact World.ownsRow_nil _ _ _ _, HB2.out⟩
    | true =>
      rw [hr] at CR
      replace CE := hid (CE hr)
      obtain ⟨h1, h2, hnk⟩ := recOk_rng hr
      have HR := hid hr
      have hrg := ent_range (L := L) (q := q) (nm := nm.data.toList) (tx := tx.data.toList) hz h1 h2
      have HE := hid (show ocX L H q ⟨nm.data.toList, lv, tx.data.toList, sq⟩ = (if (entX L q nm.data.toList tx.data.toList lv).1 = 0 then outs H nm.data.toList tx.data.toList (spX L nm.data.toList) (entX L q nm.data.toList tx.data.toList lv).2 else [⟨[], [], (entX L q nm.data.toList tx.data.toList lv).1, (entX L q nm.data.toList tx.data.toList lv).2⟩]) by unfold ocX; rw [hz, hr]; rfl)
      rw [show spotsT L H q nm.data.toList = spotsI L (pathN (nsOf L) nm.data.toList) by unfold spotsT; rw [hz, hnk]; rfl] at CS
      have HSX := hid (show spX L nm.data.toList = if spotsI L (pathN (nsOf L) nm.data.toList) = [] then [⟨[], lastL⟩] else spotsI L (pathN (nsOf L) nm.data.toList) from rfl)
      have HHS := hid (spX_has hz nm.data.toList)
      have HFO := hid (fun x => hOf_ok hz x)
      have HFT := hid (spX_fit hz nm.data.toList)
      have HSL := hid (show (spotsI L (pathN (nsOf L) nm.data.toList)).length ≤ 30 by
        have h9 := spotsT_len L H q nm.data.toList
        rwa [show spotsT L H q nm.data.toList = spotsI L (pathN (nsOf L) nm.data.toList) by unfold spotsT; rw [hz, hnk]; rfl] at h9)
      generalize ocX L H q ⟨nm.data.toList, lv, tx.data.toList, sq⟩ = X at HE ⊢
      generalize spX L nm.data.toList = SP at HE HSX HHS HFT
      generalize spotsI L (pathN (nsOf L) nm.data.toList) = sp at CS HSX HSL
      generalize entX L q nm.data.toList tx.data.toList lv = en at CE HE hrg
      obtain ⟨kd, g⟩ := en
      have HHH := hid (And.intro hh (And.intro hH (And.intro hnd hnl)))
      clear h hz hr hh hH hnd hnl hn6 hnk
      go_enter Tryz.func103, Tryz.ntmps103
      go_wp2_with fail
      refine (CV.out _ HB0.out).mono ?_
      rintro e w1 ⟨rfl, hb⟩
      have HB1 := hid (HB0.out.trans (hb.mono HB0.out.size))
      have HT1 := hid (HT0.out.to hb)
      have HK1 := hid (HK0.out.to hb)
      clear hb HB0 HT0 HK0
      have d0 := (HK1.out.2 0 _ rfl).1
      have d1 := (HK1.out.2 1 _ rfl).1
      have d2 := (HK1.out.2 2 _ rfl).1
      have d3 := (HK1.out.2 3 _ rfl).1
      go_wp2_with fail
      refine (CR.out _).mono ?_
      rintro e w2 ⟨rfl, hb⟩
      have HB2 := hid (HB1.out.trans (hb.mono HB1.out.size))
      have HT2 := hid (HT1.out.to hb)
      have HK2 := hid (HK1.out.to hb)
      clear hb d0 d1 d2 d3 HB1 HT1 HK1
      have d0 := (HK2.out.2 0 _ rfl).1
      have d1 := (HK2.out.2 1 _ rfl).1
      have d2 := (HK2.out.2 2 _ rfl).1
      have d3 := (HK2.out.2 3 _ rfl).1
      have t0 := (HT2.out.2 0 _ rfl).1
      have t1 := (HT2.out.2 1 _ rfl).1
      have t2 := (HT2.out.2 2 _ rfl).1
      go_wp2_with fail
      refine (CE.out _ HB2.out).mono ?_
      rintro e w3 ⟨rfl, hb⟩
      have HB3 := hid (HB2.out.trans (hb.mono HB2.out.size))
      have HT3 := hid (HT2.out.to hb)
      have HK3 := hid (HK2.out.to hb)
      clear hb d0 d1 d2 d3 t0 t1 t2 HB2 HT2 HK2
      go_wp2_with (refine wpList_stB (P := Tryz.prog) rfl 61 _ _ rfl (w.heap.size + 1) [.string nm, .int .i64 g, .string tx, .int .i64 sq] rfl rfl _ HK3.out rfl (by kernel_rfl) (List.all_eq_true.1 rfl) ?_)
      intro w4 hk4 hg4 hs4
      have HK4 := hid hk4
      have HT4 := hid (HT3.out.kept hg4 (by simp))
      have HB4 := hid (HB3.out.grown hg4 HB3.out.size (by intro z hz; cases hz; omega))
      clear hk4 hg4 hs4 HB3 HT3 HK3
      have d0 := (HK4.out.2 0 _ rfl).1
      have d1 := (HK4.out.2 1 _ rfl).1
      have d2 := (HK4.out.2 2 _ rfl).1
      have d3 := (HK4.out.2 3 _ rfl).1
      have t0 := (HT4.out.2 0 _ rfl).1
      have t1 := (HT4.out.2 1 _ rfl).1
      have t2 := (HT4.out.2 2 _ rfl).1
      by_cases hk : kd = 0
      · subst hk
        obtain ⟨hg1, hg2⟩ : 1 ≤ g ∧ g ≤ 60 := hrg
        have HE3 := hid (show X = outs H nm.data.toList tx.data.toList SP g by rw [HE.out, if_pos rfl])
        go_wp2_with fail
        refine (CS.out _ HB4.out).mono ?_
        rintro e w5 ⟨vS, rfl, hoS, hb⟩
        obtain ⟨AS, cS, rfl, -, hcS⟩ := (Sl.of_own hoS).form
        unfold maxLen at hcS
        have HB5 := hid (HB4.out.trans (hb.mono HB4.out.size))
        have HK5 := hid (HK4.out.to hb)
        have HT5 := hid (HT4.out.to hb)
        have h45 : w.heap.size + 1 < w4.heap.size := HK4.out.1
        have HS5 := hid hoS
        clear hb hoS d0 d1 d2 d3 t0 t1 t2
        have t1 := (HT5.out.2 1 _ rfl).1
        have h5lt : w.heap.size < w5.heap.size := HT5.out.1
        have hdfit : ∀ s ∈ SP, s.hd.length ≤ 1048576 := HFT.out
        generalize hns : sp.length = ns at *
        have HNS := hid hns
        have hns30 : ns ≤ 30 := HSL.out
        clear hns
        by_cases hsp : ns = 0
        · subst hsp
          have hsp0 : sp = [] := List.length_eq_zero_iff.1 HNS.out
          have HSP := hid (show SP = [⟨[], lastL⟩] by rw [HSX.out, if_pos hsp0])
          clear hsp0
          have hb5a := (Below.refl w5.heap.size w5).alloc (Nat.le_refl _) (.cells #[.string ⟨#[]⟩, .string ⟨#[108, 97, 115, 116]⟩] 128)
          have HBs := hid (HB5.out.trans (hb5a.mono HB5.out.size))
          go_wp2_with fail
          refine (CT.out _ HBs.out).mono ?_
          rintro e w6 ⟨M, b0, m, nb, rfl, hM, h0, hN, hb, g1, g2, g3⟩
          have h5s : w5.heap.size ≤ (w5.alloc (.cells #[.string ⟨#[]⟩, .string ⟨#[108, 97, 115, 116]⟩] 128)).heap.size := by simp
          have HSo := hid (show w6.ownsRow w5.heap.size 128 2 (.slice (some ⟨w5.heap.size, 0, none⟩) 1 1) 1 (SP.flatMap spcells) by rw [HSP.out]; exact own_below (World.ownsRow_lit w5 #[.string ⟨#[]⟩, .string ⟨#[108, 97, 115, 116]⟩] 1 (Nat.le_refl _) (by unfold maxLen; omega) rfl) hb)
          have HLN := hid (show SP.length = 1 by rw [HSP.out]; rfl)
          have hb6 : Below w5.heap.size w5 w6 := hb5a.trans (hb.mono h5s)
          clear hb hb5a t1
          have HK6 := hid (HK5.out.to hb6)
          have HB6 := hid (HB5.out.trans (hb6.mono HB5.out.size))
          have hbk : w.heap.size + 1 < w5.heap.size := HK5.out.1
          have HM6 := hid (And.intro hM (And.intro h0 hN))
          have HG6 := hid (And.intro g1 (And.intro g2 g3))
          have h56 : w5.heap.size ≤ w6.heap.size := hb6.size
          clear hM h0 hN hb6 g1 g2 g3
          go_wp2_with fail
          go_loopw [5, 8, 45] (fun kv ov iv wr => ∃ (k : Nat) (g' kd' : Int) (x : List Oc), iv = .int .i64 k ∧ kv = .int .i64 kd' ∧ k ≤ 1 ∧ 1 ≤ g' ∧ g' ≤ 60 ∧ Hid (x = outs H nm.data.toList tx.data.toList (SP.take k) g) ∧ Hid (lvAfter H nm.data.toList tx.data.toList (SP.take k) g = g') ∧ x.length ≤ k ∧ Hid (wr.ownsRow w6.heap.size 156 7 ov x.length (x.flatMap (occells nm.data.toList tx.data.toList sq))) ∧ Hid (Blk wr (w.heap.size + 1) [.string nm, .int .i64 g', .string tx, .int .i64 sq]) ∧ Hid (Kept w6 wr w6.heap.size (w.heap.size + 1)) ∧ Hid (Below w.heap.size w wr) ∧ w6.heap.size ≤ wr.heap.size) (fun _ _ iv _ => 1 - (intOf iv).toNat)
          case atStart => exact ⟨0, g, 0, [], rfl, rfl, by omega, hg1, hg2, rfl, rfl, by simp, World.ownsRow_nil _ _ _ _, HK6.out, Kept.refl _ _ _, HB6.out, Nat.le_refl _⟩
          case round =>
            obtain ⟨k, g', kd', x, rfl, rfl, hk, hp1, hp2, HX, HLv, hxl, HO, HK, HKp, HB, hlo⟩ := hrel
            obtain ⟨Ax, cx, rfl, -, -⟩ := (Sl.of_own HO.out).form
            by_cases hlt : k < 1
            · obtain ⟨bs, os, lg, hd, eA, hbs, hx1, e0, e1⟩ := spcells_at (Sl.of_own HSo.out) hlt
              have hbs2 : w5.heap.size ≤ bs := (HSo.out.lt bs (by rw [eA]; rfl)).1
              have hbsl : bs < w6.heap.size := hbs
              have hkb := HKp.out bs hbsl (by omega)
              have c0 : wr.cell? ⟨bs, os + k * 2, none⟩ = some (.string lg) := (World.cell?_of_block (a := ⟨bs, os + k * 2, none⟩) hkb).trans e0
              have c1 : wr.cell? ⟨bs, os + k * 2 + 1, none⟩ = some (.string hd) := (World.cell?_of_block (a := ⟨bs, os + k * 2 + 1, none⟩) hkb).trans e1
              obtain ⟨hh, hH, hnd, hnl⟩ := HHH.out
              obtain ⟨bx, hbB, A4, fn, k4, ht1, ht2, ht3, ht4⟩ := taker_at hh hH hnd hnl w6 HM6.out.2.1 HM6.out.2.2 hd.data.toList (HHS.out _ (List.mem_of_getElem? hx1))
              have hbx : w5.heap.size ≤ bx := by
                rcases ht4 with e | ⟨j, y, j1, j2, e⟩
                · rw [e]; exact Nat.le_trans h5s HG6.out.2.1
                · rw [e]; exact Nat.le_trans h5s (HG6.out.2.2 j y j1 j2)
              have hMl : w5.heap.size ≤ M := Nat.le_trans h5s HG6.out.1
              have hMM : M < w6.heap.size := HM6.out.1.lt
              have hMk := (HM6.out.1.same (HKp.out _ hMM (by omega))).alloc' (.cells #[.string lg, .string hd] 128)
              have hhd : hd.size ≤ maxLen := by
                have h9 : hd.data.toList.length ≤ 1048576 := hdfit _ (List.mem_of_getElem? hx1)
                rw [Lib.size_eq]; unfold maxLen; omega
              have hlook := hMk.look Tryz.underlying177 (zeroTaker _) hd hhd
              rw [ht1] at hlook
              replace hlook : _ = Result.ok (Value.func (.func 151) #[] #[.pointer (some ⟨bx, 0, none⟩)]) _ := hlook
              have hbxl : bx < w6.heap.size := ht2.1
              have YB := hid ((ht2.same (HKp.out bx hbxl (by omega))).alloc (.cells #[.string lg, .string hd] 128))
              have HBa := hid (HB.out.alloc HB.out.size (.cells #[.string lg, .string hd] 128))
              have HKa := hid (HK.out.alloc (.cells #[.string lg, .string hd] 128))
              have HKpa := hid (HKp.out.below (((Below.refl wr.heap.size wr).alloc (Nat.le_refl _) (.cells #[.string lg, .string hd] 128)).mono hlo))
              have HOa := hid (HO.out.alloc (.cells #[.string lg, .string hd] 128))
              have CK := takerClo_c (B := B) nm tx g' sq YB.out ⟨ht3.1.below HBa.out hB, ht3.2⟩ (Nat.le_trans hB HBa.out.size) (HFO.out _) (recOk_lv HR.out hp1 hp2) hnm htx
              unfold TakePost at CK
              have hst := (outs_step (H := H) (nm := nm.data.toList) (tx := tx.data.toList) (lv := g) hx1 HLv.out)
              have hrg2 := askH_range (nm := nm.data.toList) (tx := tx.data.toList) (HFO.out hd.data.toList) hp1 hp2
              generalize (askH nm.data.toList tx.data.toList (hOf H hd.data.toList) g').1 = ka at CK hst
              generalize (askH nm.data.toList tx.data.toList (hOf H hd.data.toList) g').2 = ga at CK hst hrg2
              obtain ⟨r1, r2⟩ := hrg2
              have HST := hid hst
              replace CK := hid CK
              have d0 := (HK.out.2 0 _ rfl).1
              have d1 := (HK.out.2 1 _ rfl).1
              have d2 := (HK.out.2 2 _ rfl).1
              have d3 := (HK.out.2 3 _ rfl).1
              have hkl : w.heap.size + 1 < wr.heap.size := HK.out.1
              have hbsr : bs < wr.heap.size := by omega
              have u0 : (0 : Int) ≤ (k : Int) := by omega
              have u1 : (k : Int) < (1 : Int) := by omega
              have u2 : ((k : Int)).toNat = k := by simp
              clear hh hH hnd hnl ht1 ht2 ht3 ht4 hx1 e0 e1 hkb hst hMk
              obtain ⟨rfl, rfl⟩ : w5.heap.size = bs ∧ 0 = os := by simpa using eA
              simp only [Nat.zero_add] at c0 c1
              have YS := hid (Blk.new wr #[.string lg, .string hd] 128)
              go_wp2_with fail
              refine (CK.out).mono ?_
              rintro e w7 ⟨rfl, hb⟩
              have HB7 := hid (HBa.out.trans (hb.mono HBa.out.size))
              have HK7 := hid (HKa.out.to hb)
              have HKp7 := hid (HKpa.out.below (hb.mono (by simp; omega)))
              have HO7 := hid (own_below HOa.out hb)
              have YS7 := hid (YS.out.to hb)
              have hs7 : w6.heap.size ≤ w7.heap.size := by have := hb.size; simp at this; omega
              clear hb d0 d1 d2 d3 c0 c1 hlook
              go_wp2_with (refine wpList_stB (P := Tryz.prog) rfl 61 _ _ rfl (w.heap.size + 1) [.string nm, .int .i64 ga, .string tx, .int .i64 sq] rfl rfl _ HK7.out rfl (by kernel_rfl) (List.all_eq_true.1 rfl) ?_)
              intro w8 hk8 hg8 hs8
              have HK8 := hid hk8
              have HB8 := hid (HB7.out.grown hg8 HB7.out.size (by intro z hz; cases hz; omega))
              have HKp8 := hid (HKp7.out.grown hg8 hs7)
              have HO8 := hid (own_kept HO7.out hg8 (by omega))
              have YS8 := hid (YS7.out.kept hg8 (by simp; omega))
              have hs8' : w6.heap.size ≤ w8.heap.size := by omega
              clear hk8 hg8 hs8
              have d0 := (HK8.out.2 0 _ rfl).1
              have d1 := (HK8.out.2 1 _ rfl).1
              have d2 := (HK8.out.2 2 _ rfl).1
              have d3 := (HK8.out.2 3 _ rfl).1
              have c0 := (YS8.out.2 0 _ rfl).1
              have c1 := (YS8.out.2 1 _ rfl).1
              go_wp2_with (at_builtin; refine Classical.byContradiction (fun hgoal => ?_))
              refine hgoal (appOc _ rfl (.tmp 58) (.tmp 63) rfl w6.heap.size _ nm tx sq x (by rfl) HO8.out lg hd ka ga _ _ _ (by rfl) (by first | rfl | simp) (by omega) hs8' ?_)
              intro v9 w9 ho9 hb9
              have HO9 := hid ho9
              have HB9 := hid (HB8.out.trans (hb9.mono (by omega)))
              have HK9 := hid (HK8.out.below hb9 (by omega))
              have HKp9 := hid (HKp8.out.below hb9)
              have hs9 : w6.heap.size ≤ w9.heap.size := Nat.le_trans hs8' hb9.size
              clear ho9 hb9 d0 d1 d2 d3 c0 c1
              go_wp2_with fail
              go_roundw
              case rel => exact ⟨k + 1, ga, ka, _, by go_num, rfl, by omega, r1, r2, (by show _ = _; rw [HST.out.1, HX.out]), HST.out.2, by rw [List.length_append]; show x.length + 1 ≤ _; omega, HO9.out, HK9.out, HKp9.out, HB9.out, hs9⟩
              case measure => simp [intOf]; omega
            · have HF := hid (show X = x by
                rw [HE3.out, HX.out, List.take_of_length_le (by have := HLN.out; omega)])
              go_wp2_with fail
              go_ret
              exact ⟨_, rfl, by rw [HF.out]; exact own_base HO.out HB6.out.size, HB.out⟩
        · have q1 : ((ns : Int) == 0) = false := by simp; omega
          have HSP := hid (show SP = sp by rw [HSX.out, if_neg (fun e => hsp (by rw [← HNS.out, e]; rfl))])
          go_wp2_with fail
          refine (CT.out _ HB5.out).mono ?_
          rintro e w6 ⟨M, b0, m, nb, rfl, hM, h0, hN, hb, g1, g2, g3⟩
          have h5s : w5.heap.size ≤ w5.heap.size := Nat.le_refl _
          have HSo := hid (show w6.ownsRow w4.heap.size 128 2 (.slice AS ns cS) ns (SP.flatMap spcells) by rw [HSP.out]; exact own_below HS5.out hb)
          have HLN := hid (show SP.length = ns by rw [HSP.out, HNS.out])
          have hb6 : Below w5.heap.size w5 w6 := hb
          clear hb t1
          have HK6 := hid (HK5.out.to hb6)
          have HB6 := hid (HB5.out.trans (hb6.mono HB5.out.size))
          have hbk : w.heap.size + 1 < w5.heap.size := HK5.out.1
          have HM6 := hid (And.intro hM (And.intro h0 hN))
          have HG6 := hid (And.intro g1 (And.intro g2 g3))
          have h56 : w5.heap.size ≤ w6.heap.size := hb6.size
          clear hM h0 hN hb6 g1 g2 g3
          go_wp2_with fail
          go_loopw [5, 8, 45] (fun kv ov iv wr => ∃ (k : Nat) (g' kd' : Int) (x : List Oc), iv = .int .i64 k ∧ kv = .int .i64 kd' ∧ k ≤ ns ∧ 1 ≤ g' ∧ g' ≤ 60 ∧ Hid (x = outs H nm.data.toList tx.data.toList (SP.take k) g) ∧ Hid (lvAfter H nm.data.toList tx.data.toList (SP.take k) g = g') ∧ x.length ≤ k ∧ Hid (wr.ownsRow w6.heap.size 156 7 ov x.length (x.flatMap (occells nm.data.toList tx.data.toList sq))) ∧ Hid (Blk wr (w.heap.size + 1) [.string nm, .int .i64 g', .string tx, .int .i64 sq]) ∧ Hid (Kept w6 wr w6.heap.size (w.heap.size + 1)) ∧ Hid (Below w.heap.size w wr) ∧ w6.heap.size ≤ wr.heap.size) (fun _ _ iv _ => ns - (intOf iv).toNat)
          case atStart => exact ⟨0, g, 0, [], rfl, rfl, by omega, hg1, hg2, rfl, rfl, by simp, World.ownsRow_nil _ _ _ _, HK6.out, Kept.refl _ _ _, HB6.out, Nat.le_refl _⟩
          case round =>
            obtain ⟨k, g', kd', x, rfl, rfl, hk, hp1, hp2, HX, HLv, hxl, HO, HK, HKp, HB, hlo⟩ := hrel
            obtain ⟨Ax, cx, rfl, -, -⟩ := (Sl.of_own HO.out).form
            by_cases hlt : k < ns
            · obtain ⟨bs, os, lg, hd, eA, hbs, hx1, e0, e1⟩ := spcells_at (Sl.of_own HSo.out) hlt
              have hbs2 : w4.heap.size ≤ bs := (HSo.out.lt bs (by rw [eA]; rfl)).1
              have hbsl : bs < w6.heap.size := hbs
              have hkb := HKp.out bs hbsl (by omega)
              have c0 : wr.cell? ⟨bs, os + k * 2, none⟩ = some (.string lg) := (World.cell?_of_block (a := ⟨bs, os + k * 2, none⟩) hkb).trans e0
              have c1 : wr.cell? ⟨bs, os + k * 2 + 1, none⟩ = some (.string hd) := (World.cell?_of_block (a := ⟨bs, os + k * 2 + 1, none⟩) hkb).trans e1
              obtain ⟨hh, hH, hnd, hnl⟩ := HHH.out
              obtain ⟨bx, hbB, A4, fn, k4, ht1, ht2, ht3, ht4⟩ := taker_at hh hH hnd hnl w6 HM6.out.2.1 HM6.out.2.2 hd.data.toList (HHS.out _ (List.mem_of_getElem? hx1))
              have hbx : w5.heap.size ≤ bx := by
                rcases ht4 with e | ⟨j, y, j1, j2, e⟩
                · rw [e]; exact Nat.le_trans h5s HG6.out.2.1
                · rw [e]; exact Nat.le_trans h5s (HG6.out.2.2 j y j1 j2)
              have hMl : w5.heap.size ≤ M := Nat.le_trans h5s HG6.out.1
              have hMM : M < w6.heap.size := HM6.out.1.lt
              have hMk := (HM6.out.1.same (HKp.out _ hMM (by omega))).alloc' (.cells #[.string lg, .string hd] 128)
              have hhd : hd.size ≤ maxLen := by
                have h9 : hd.data.toList.length ≤ 1048576 := hdfit _ (List.mem_of_getElem? hx1)
                rw [Lib.size_eq]; unfold maxLen; omega
              have hlook := hMk.look Tryz.underlying177 (zeroTaker _) hd hhd
              rw [ht1] at hlook
              replace hlook : _ = Result.ok (Value.func (.func 151) #[] #[.pointer (some ⟨bx, 0, none⟩)]) _ := hlook
              have hbxl : bx < w6.heap.size := ht2.1
              have YB := hid ((ht2.same (HKp.out bx hbxl (by omega))).alloc (.cells #[.string lg, .string hd] 128))
              have HBa := hid (HB.out.alloc HB.out.size (.cells #[.string lg, .string hd] 128))
              have HKa := hid (HK.out.alloc (.cells #[.string lg, .string hd] 128))
              have HKpa := hid (HKp.out.below (((Below.refl wr.heap.size wr).alloc (Nat.le_refl _) (.cells #[.string lg, .string hd] 128)).mono hlo))
              have HOa := hid (HO.out.alloc (.cells #[.string lg, .string hd] 128))
              have CK := takerClo_c (B := B) nm tx g' sq YB.out ⟨ht3.1.below HBa.out hB, ht3.2⟩ (Nat.le_trans hB HBa.out.size) (HFO.out _) (recOk_lv HR.out hp1 hp2) hnm htx
              unfold TakePost at CK
              have hst := (outs_step (H := H) (nm := nm.data.toList) (tx := tx.data.toList) (lv := g) hx1 HLv.out)
              have hrg2 := askH_range (nm := nm.data.toList) (tx := tx.data.toList) (HFO.out hd.data.toList) hp1 hp2
              generalize (askH nm.data.toList tx.data.toList (hOf H hd.data.toList) g').1 = ka at CK hst
              generalize (askH nm.data.toList tx.data.toList (hOf H hd.data.toList) g').2 = ga at CK hst hrg2
              obtain ⟨r1, r2⟩ := hrg2
              have HST := hid hst
              replace CK := hid CK
              have d0 := (HK.out.2 0 _ rfl).1
              have d1 := (HK.out.2 1 _ rfl).1
              have d2 := (HK.out.2 2 _ rfl).1
              have d3 := (HK.out.2 3 _ rfl).1
              have hkl : w.heap.size + 1 < wr.heap.size := HK.out.1
              have hbsr : bs < wr.heap.size := by omega
              have u0 : (0 : Int) ≤ (k : Int) := by omega
              have u1 : (k : Int) < (ns : Int) := by omega
              have u2 : ((k : Int)).toNat = k := by simp
              clear hh hH hnd hnl ht1 ht2 ht3 ht4 hx1 e0 e1 hkb hst hMk
              subst eA
              have YS := hid (Blk.new wr #[.string lg, .string hd] 128)
              go_wp2_with fail
              refine (CK.out).mono ?_
              rintro e w7 ⟨rfl, hb⟩
              have HB7 := hid (HBa.out.trans (hb.mono HBa.out.size))
              have HK7 := hid (HKa.out.to hb)
              have HKp7 := hid (HKpa.out.below (hb.mono (by simp; omega)))
              have HO7 := hid (own_below HOa.out hb)
              have YS7 := hid (YS.out.to hb)
              have hs7 : w6.heap.size ≤ w7.heap.size := by have := hb.size; simp at this; omega
              clear hb d0 d1 d2 d3 c0 c1 hlook
              go_wp2_with (refine wpList_stB (P := Tryz.prog) rfl 61 _ _ rfl (w.heap.size + 1) [.string nm, .int .i64 ga, .string tx, .int .i64 sq] rfl rfl _ HK7.out rfl (by kernel_rfl) (List.all_eq_true.1 rfl) ?_)
              intro w8 hk8 hg8 hs8
              have HK8 := hid hk8
              have HB8 := hid (HB7.out.grown hg8 HB7.out.size (by intro z hz; cases hz; omega))
              have HKp8 := hid (HKp7.out.grown hg8 hs7)
              have HO8 := hid (own_kept HO7.out hg8 (by omega))
              have YS8 := hid (YS7.out.kept hg8 (by simp; omega))
              have hs8' : w6.heap.size ≤ w8.heap.size := by omega
              clear hk8 hg8 hs8
              have d0 := (HK8.out.2 0 _ rfl).1
              have d1 := (HK8.out.2 1 _ rfl).1
              have d2 := (HK8.out.2 2 _ rfl).1
              have d3 := (HK8.out.2 3 _ rfl).1
              have c0 := (YS8.out.2 0 _ rfl).1
              have c1 := (YS8.out.2 1 _ rfl).1
              go_wp2_with (at_builtin; refine Classical.byContradiction (fun hgoal => ?_))
              refine hgoal (appOc _ rfl (.tmp 58) (.tmp 63) rfl w6.heap.size _ nm tx sq x (by rfl) HO8.out lg hd ka ga _ _ _ (by rfl) (by first | rfl | simp) (by omega) hs8' ?_)
              intro v9 w9 ho9 hb9
              have HO9 := hid ho9
              have HB9 := hid (HB8.out.trans (hb9.mono (by omega)))
              have HK9 := hid (HK8.out.below hb9 (by omega))
              have HKp9 := hid (HKp8.out.below hb9)
              have hs9 : w6.heap.size ≤ w9.heap.size := Nat.le_trans hs8' hb9.size
              clear ho9 hb9 d0 d1 d2 d3 c0 c1
              go_wp2_with fail
              go_roundw
              case rel => exact ⟨k + 1, ga, ka, _, by go_num, rfl, by omega, r1, r2, (by show _ = _; rw [HST.out.1, HX.out]), HST.out.2, by rw [List.length_append]; show x.length + 1 ≤ _; omega, HO9.out, HK9.out, HKp9.out, HB9.out, hs9⟩
              case measure => simp [intOf]; omega
            · have HF := hid (show X = x by
                rw [HE3.out, HX.out, List.take_of_length_le (by have := HLN.out; omega)])
              go_wp2_with fail
              go_ret
              exact ⟨_, rfl, by rw [HF.out]; exact own_base HO.out HB6.out.size, HB.out⟩
      · have q0 : (kd != 0) = true := by simpa using hk
        have HE2 := hid (show X = [⟨[], [], kd, g⟩] by rw [HE.out, if_neg hk])
        clear hk
        go_wp2_with fail
        go_ret
        exact ⟨_, rfl, by rw [HE2.out]; exact own_base (World.ownsRow_lit w4 #[.string ⟨#[]⟩, .string ⟨#[]⟩, .int .i64 kd, .string nm, .int .i64 g, .string tx, .int .i64 sq] 1 (Nat.le_refl _) (by unfold maxLen; omega) rfl) HB4.out.size, HB4.out.alloc HB4.out.size _⟩
end Go.Proofs.YtlifaeleoiodkaaGreatDoor

