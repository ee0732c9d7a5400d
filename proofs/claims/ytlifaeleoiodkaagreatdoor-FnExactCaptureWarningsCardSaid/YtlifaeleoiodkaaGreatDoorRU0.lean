/-
  THE RULE OF A WARNING: plain; RuleOf of the program.
-/
import Derived.Test.YtlifaeleoiodkaaGreatDoorFRM
import Derived.Test.YtlifaeleoiodkaaGreatDoorR13
namespace Go.Proofs.YtlifaeleoiodkaaGreatDoor
open Go.RowKit Go.Proofs.YtlifaeleoiodkaaGreatDoor.Nm
set_option linter.unusedSimpArgs false
set_option linter.unusedVariables false

/-- a warning falls under a rule -/
def fallsB (w : Wrn) (x : Rul) : Bool := (decide (x.wd = []) || hasW w.tx x.wd) && (belowL w.md x.md && (decide (x.ln = 0) || decide (x.ln = w.ln)))
def firstIx {α : Type} (p : α → Bool) : List α → Option Nat
  | [] => none
  | x :: l => if p x then some 0 else (firstIx p l).map (· + 1)
def ixI : Option Nat → Int
  | some k => (k : Int)
  | none => -1
def ruleIx (l : List Rul) (w : Wrn) : Int := ixI (firstIx (fallsB w) l)
def ruleX (l : List Rul) (w : Wrn) : Int := if rulsOk l && wrnOk w then ruleIx l w else -1
theorem firstIx_hit {α : Type} {p : α → Bool} {l : List α} {k : Nat} {x : α} (h : (l.take k).any p = false) (hx : l[k]? = some x) (hp : p x = true) : firstIx p l = some k := by
  induction l generalizing k with
  | nil => simp at hx
  | cons a l ih =>
    cases k with
    | zero =>
      simp only [List.getElem?_cons_zero, Option.some.injEq] at hx
      subst hx
      unfold firstIx; rw [if_pos hp]
    | succ k =>
      simp only [List.take_succ_cons, List.any_cons, Bool.or_eq_false_iff] at h
      unfold firstIx
      rw [if_neg (by rw [h.1]; simp), ih h.2 (by simpa using hx)]
      rfl
theorem firstIx_none {α : Type} {p : α → Bool} {l : List α} (h : l.any p = false) : firstIx p l = none := by
  induction l with
  | nil => rfl
  | cons a l ih =>
    simp only [List.any_cons, Bool.or_eq_false_iff] at h
    unfold firstIx
    rw [if_neg (by rw [h.1]; simp), ih h.2]
    rfl
theorem ruleIx_hit {l : List Rul} {w : Wrn} {k : Nat} {x : Rul} (h : (l.take k).any (fallsB w) = false) (hx : l[k]? = some x) (hp : fallsB w x = true) : ruleIx l w = (k : Int) := by
  unfold ruleIx; rw [firstIx_hit h hx hp]; rfl
theorem ruleIx_none {l : List Rul} {w : Wrn} (h : l.any (fallsB w) = false) : ruleIx l w = -1 := by
  unfold ruleIx; rw [firstIx_none h]; rfl

set_option maxHeartbeats 4000000 in
set_option maxRecDepth 100000 in
theorem implFalls_c (tx wm : ByteArray) (wl ac rl : Int) (wd rm : ByteArray) (w : World) (h1 : tx.size ≤ 1048576) (h2 : wm.size ≤ 1048576) (h3 : rm.size ≤ 1048576) :
    Calls Tryz.prog 135 #[.agg #[.string tx, .string wm, .int .i64 wl], .agg #[.int .i64 ac, .string wd, .string rm, .int .i64 rl]] w (BoolPost w (fallsB ⟨tx.data.toList, wm.data.toList, wl⟩ ⟨ac, wd.data.toList, rm.data.toList, rl⟩)) := by
  have CB := hid (fun W => inBranch_c wm rm W (by unfold maxLen; omega) (by omega))
  have CH := hid (fun W => implHasWord_c tx wd W h1)
  obtain ⟨e1, i1, g1⟩ := empty_bool wd
  obtain ⟨e3, i3, g3⟩ := eq_boolRi rl 0
  obtain ⟨e4, i4, g4⟩ := eq_boolRi rl wl
  have HE := hid (show fallsB ⟨tx.data.toList, wm.data.toList, wl⟩ ⟨ac, wd.data.toList, rm.data.toList, rl⟩ = ((e1 || hasW tx.data.toList wd.data.toList) && (belowL wm.data.toList rm.data.toList && (e3 || e4))) by unfold fallsB; rw [g1, g3, g4])
  generalize fallsB ⟨tx.data.toList, wm.data.toList, wl⟩ ⟨ac, wd.data.toList, rm.data.toList, rl⟩ = z at HE ⊢
  generalize belowL wm.data.toList rm.data.toList = b at CB HE
  generalize hasW tx.data.toList wd.data.toList = hw at CH HE
  have K1 := hid ((Blk.new w #[.string tx, .string wm, .int .i64 wl] 59).alloc (.cells #[.int .i64 ac, .string wd, .string rm, .int .i64 rl] 63))
  have K2 := hid (Blk.new (w.alloc (.cells #[.string tx, .string wm, .int .i64 wl] 59)) #[.int .i64 ac, .string wd, .string rm, .int .i64 rl] 63)
  simp only [World.size_alloc] at K2
  have HB0 := hid (show Below w.heap.size w ((w.alloc (.cells #[.string tx, .string wm, .int .i64 wl] 59)).alloc (.cells #[.int .i64 ac, .string wd, .string rm, .int .i64 rl] 63)) from ((Below.refl _ _).alloc (Nat.le_refl _) _).alloc (by simp) _)
  clear g1 g3 g4
  cases e1 with
  | true =>
    cases e3 <;> cases e4 <;> cases b
    all_goals
      go_enter Tryz.func135, Tryz.ntmps135
      go_wp2_with (go_at_call 144; refine (CB.out _).mono ?_; rintro e w2 ⟨rfl, rfl⟩)
      go_ret
      exact ⟨ret_bool (by rw [HE.out]; simp), HB0.out⟩
  | false =>
    cases hw with
    | false =>
      go_enter Tryz.func135, Tryz.ntmps135
      go_wp2_with fail
      refine (CH.out _).mono ?_
      rintro e w1 ⟨rfl, hb⟩
      have HB1 := hid (HB0.out.trans (hb.mono HB0.out.size))
      clear hb
      go_wp2_with fail
      go_ret
      exact ⟨ret_bool (by rw [HE.out]; simp), HB1.out⟩
    | true =>
      cases e3 <;> cases e4 <;> cases b
      all_goals
        go_enter Tryz.func135, Tryz.ntmps135
        go_wp2_with fail
        refine (CH.out _).mono ?_
        rintro e w1 ⟨rfl, hb⟩
        have HB1 := hid (HB0.out.trans (hb.mono HB0.out.size))
        have a1 := ((K1.out.to hb).2 1 _ rfl).1
        have a2 := ((K1.out.to hb).2 2 _ rfl).1
        have b2 := ((K2.out.to hb).2 2 _ rfl).1
        have b3 := ((K2.out.to hb).2 3 _ rfl).1
        clear hb
        go_wp2_with (go_at_call 144; refine (CB.out _).mono ?_; rintro e w2 ⟨rfl, rfl⟩)
        go_ret
        exact ⟨ret_bool (by rw [HE.out]; simp), HB1.out⟩

/-- a warning in a box -/
def WrnAt (w : World) (bx : Nat) (s m : ByteArray) (n : Int) : Prop := w.cell? ⟨bx, 0, none⟩ = some (.string s) ∧ w.cell? ⟨bx, 1, none⟩ = some (.string m) ∧ w.cell? ⟨bx, 2, none⟩ = some (.int .i64 n)
theorem WrnAt.below {w w' : World} {B bx : Nat} {n : Int} {s m : ByteArray} (h : WrnAt w bx s m n) (hb : Below B w w') (hB : bx < B) : WrnAt w' bx s m n :=
  ⟨(hb.cell (p := ⟨bx, 0, none⟩) hB).trans h.1, (hb.cell (p := ⟨bx, 1, none⟩) hB).trans h.2.1, (hb.cell (p := ⟨bx, 2, none⟩) hB).trans h.2.2⟩

set_option maxHeartbeats 1000000 in
set_option maxRecDepth 100000 in
theorem ruleFn_c (tx wm : ByteArray) (wl ac rl : Int) (wd rm : ByteArray) (bx : Nat) (w : World) (h1 : tx.size ≤ 1048576) (h2 : wm.size ≤ 1048576) (h3 : rm.size ≤ 1048576) (hc : WrnAt w bx tx wm wl) :
    Calls Tryz.prog 134 #[.agg #[.int .i64 ac, .string wd, .string rm, .int .i64 rl], .pointer (some ⟨bx, 0, none⟩)] w (BoolPost w (fallsB ⟨tx.data.toList, wm.data.toList, wl⟩ ⟨ac, wd.data.toList, rm.data.toList, rl⟩)) := by
  have hlt : bx < w.heap.size := World.block_lt_of_cell? w _ hc.1
  have hb0 : Below w.heap.size w (w.alloc (.cells #[.int .i64 ac, .string wd, .string rm, .int .i64 rl] 63)) := (Below.refl _ _).alloc (Nat.le_refl _) _
  obtain ⟨y0, y1, y2⟩ := hc.below hb0 hlt
  have C := hid (fun W => implFalls_c tx wm wl ac rl wd rm W h1 h2 h3)
  have HB0 := hid hb0
  generalize fallsB ⟨tx.data.toList, wm.data.toList, wl⟩ ⟨ac, wd.data.toList, rm.data.toList, rl⟩ = z at C ⊢
  clear hb0 hc
  go_enter Tryz.func134, Tryz.ntmps134
  go_wp2_with fail
  refine (C.out _).mono ?_
  rintro e w1 ⟨rfl, hb⟩
  have HB1 := hid (HB0.out.trans (hb.mono HB0.out.size))
  clear hb
  go_wp2_with fail
  go_ret
  exact ⟨rfl, HB1.out⟩

set_option maxHeartbeats 4000000 in
set_option maxRecDepth 100000 in
theorem indexRule_c (v : Value) (n B bx : Nat) (l : List Rul) (tx wm : ByteArray) (wl : Int) (w : World) (hv : Ruls w B n v l) (hB : B ≤ w.heap.size) (h1 : tx.size ≤ 1048576) (h2 : wm.size ≤ 1048576) (hc : WrnAt w bx tx wm wl) :
    Calls Tryz.prog 133 #[v, .func (.func 134) #[] #[.pointer (some ⟨bx, 0, none⟩)]] w
      (fun e w' => e = .returned (.int .i64 (ruleIx l ⟨tx.data.toList, wm.data.toList, wl⟩)) ∧ Below w.heap.size w w') := by
  have hlt0 : bx < w.heap.size := World.block_lt_of_cell? w _ hc.1
  have hln := hv.count
  obtain ⟨A, c, rfl, hnc, hcm⟩ := hv.1.form
  unfold maxLen at hcm
  have HV := hid (And.intro hv hln)
  have HC := hid (And.intro hc hlt0)
  clear hv hln hc hlt0
  go_enter Tryz.func133, Tryz.ntmps133
  go_wp2_with fail
  go_loopw [8] (fun iv wr => ∃ (k : Nat), iv = .int .i64 k ∧ k ≤ n ∧ Hid ((l.take k).any (fallsB ⟨tx.data.toList, wm.data.toList, wl⟩) = false) ∧ Hid (Below w.heap.size w wr)) (fun iv _ => n - (intOf iv).toNat)
  case atStart => exact ⟨0, rfl, by omega, by simp [Hid], Below.refl _ _⟩
  case round =>
    obtain ⟨k, rfl, hk, HN, HB⟩ := hrel
    by_cases hlt : k < n
    · obtain ⟨b, o, ac, wd, md, ln, rfl, hbB, hx, c0, c1, c2, c3⟩ := rucells_at (HV.out.1.1.below HB.out hB) hlt
      have hfit := rucells_fit HV.out.1.2 hx
      have E := hid (ruleFn_c tx wm wl ac ln wd md bx wr h1 h2 hfit.2 (HC.out.1.below HB.out HC.out.2))
      have HX := hid hx
      clear hx hfit
      cases hz : fallsB ⟨tx.data.toList, wm.data.toList, wl⟩ ⟨ac, wd.data.toList, md.data.toList, ln⟩ with
      | true =>
        rw [hz] at E
        have HZ := hid hz
        clear hz
        go_wp2_with (go_at_call 134; refine (E.out).mono ?_; rintro e w2 ⟨rfl, hb⟩)
        go_ret
        exact ⟨by rw [ruleIx_hit HN.out HX.out HZ.out]; rfl, HB.out.trans (hb.mono HB.out.size)⟩
      | false =>
        rw [hz] at E
        have HZ := hid hz
        clear hz
        go_wp2_with (go_at_call 134; refine (E.out).mono ?_; rintro e w2 ⟨rfl, hb⟩)
        go_roundw
        case rel => exact ⟨k + 1, by go_num, by omega, (show _ = _ by rw [any_next HN.out HX.out, HZ.out]; rfl), HB.out.trans (hb.mono HB.out.size)⟩
        case measure => simp [intOf]; omega
    · have HE := hid (show l.any (fallsB ⟨tx.data.toList, wm.data.toList, wl⟩) = false by
        have h := HN.out
        rwa [List.take_of_length_le (by have := HV.out.2; omega)] at h)
      go_wp2_with fail
      go_ret
      exact ⟨by rw [ruleIx_none HE.out]; rfl, HB.out⟩

set_option maxHeartbeats 4000000 in
set_option maxRecDepth 100000 in
theorem implRuleOf_c (v : Value) (n B : Nat) (l : List Rul) (tx md : ByteArray) (ln : Int) (w : World) (hv : Ruls w B n v l) (hB : B ≤ w.heap.size) (h1 : tx.size ≤ maxTxt) (h2 : md.size ≤ maxTxt) :
    Calls Tryz.prog 116 #[v, .agg #[.string tx, .string md, .int .i64 ln]] w (fun e w' => e = .returned (.int .i64 (ruleX l ⟨tx.data.toList, md.data.toList, ln⟩)) ∧ Below w.heap.size w w') := by
  have hb0 : Below w.heap.size w (w.alloc (.cells #[.string tx, .string md, .int .i64 ln] 59)) := (Below.refl _ _).alloc (Nat.le_refl _) _
  have KW := hid (Blk.new w #[.string tx, .string md, .int .i64 ln] 59)
  have C := hid (fun (W : World) (hW : Below w.heap.size w W) => implValidRules_c v n B l W (hv.below hW hB) (Nat.le_trans hB hW.size))
  have CW := hid (fun (W : World) => implValidWarning_c tx md ln W h1 h2)
  unfold maxTxt at h1 h2
  have CI := hid (fun (W : World) (hW : Below w.heap.size w W) (hc : WrnAt W w.heap.size tx md ln) => indexRule_c v n B w.heap.size l tx md ln W (hv.below hW hB) (Nat.le_trans hB hW.size) h1 h2 hc)
  have HX := hid (show ruleX l ⟨tx.data.toList, md.data.toList, ln⟩ = if rulsOk l && wrnOk ⟨tx.data.toList, md.data.toList, ln⟩ then ruleIx l ⟨tx.data.toList, md.data.toList, ln⟩ else -1 from rfl)
  generalize ruleX l ⟨tx.data.toList, md.data.toList, ln⟩ = X at HX ⊢
  generalize ruleIx l ⟨tx.data.toList, md.data.toList, ln⟩ = ix at HX CI
  generalize rulsOk l = ok at C HX
  generalize wrnOk ⟨tx.data.toList, md.data.toList, ln⟩ = wok at CW HX
  obtain ⟨A, c, rfl, hnc, hcm⟩ := hv.1.form
  have hmf : ∀ (fn : Fn) (first cap : Array Value) (w : World), (Instr.makeFunc fn first cap).run Tryz.prog w = .ok (.func fn first cap) w := fun _ _ _ _ => rfl
  have HB0 := hid hb0
  clear hv hb0
  cases ok with
  | false =>
    go_enter Tryz.func116, Tryz.ntmps116
    go_wp2_with fail
    refine (C.out _ HB0.out).mono ?_
    rintro e w1 ⟨rfl, hb⟩
    have HB1 := hid (HB0.out.trans (hb.mono HB0.out.size))
    clear hb
    go_wp2_with fail
    go_ret
    exact ⟨by rw [HX.out]; rfl, HB1.out⟩
  | true =>
    cases wok with
    | false =>
      go_enter Tryz.func116, Tryz.ntmps116
      go_wp2_with fail
      refine (C.out _ HB0.out).mono ?_
      rintro e w1 ⟨rfl, hb⟩
      have HB1 := hid (HB0.out.trans (hb.mono HB0.out.size))
      have KW1 := hid (KW.out.to hb)
      clear hb
      have d0 := (KW1.out.2 0 _ rfl).1
      have d1 := (KW1.out.2 1 _ rfl).1
      have d2 := (KW1.out.2 2 _ rfl).1
      go_wp2_with fail
      refine (CW.out _).mono ?_
      rintro e w2 ⟨rfl, hb⟩
      have HB2 := hid (HB1.out.trans (hb.mono HB1.out.size))
      clear hb
      go_wp2_with fail
      go_ret
      exact ⟨by rw [HX.out]; rfl, HB2.out⟩
    | true =>
      go_enter Tryz.func116, Tryz.ntmps116
      go_wp2_with fail
      refine (C.out _ HB0.out).mono ?_
      rintro e w1 ⟨rfl, hb⟩
      have HB1 := hid (HB0.out.trans (hb.mono HB0.out.size))
      have KW1 := hid (KW.out.to hb)
      clear hb
      have d0 := (KW1.out.2 0 _ rfl).1
      have d1 := (KW1.out.2 1 _ rfl).1
      have d2 := (KW1.out.2 2 _ rfl).1
      go_wp2_with fail
      refine (CW.out _).mono ?_
      rintro e w2 ⟨rfl, hb⟩
      have HB2 := hid (HB1.out.trans (hb.mono HB1.out.size))
      have KW2 := hid (KW1.out.to hb)
      have CI2 := hid (CI.out w2 HB2.out ⟨(KW2.out.2 0 _ rfl).1, (KW2.out.2 1 _ rfl).1, (KW2.out.2 2 _ rfl).1⟩)
      clear hb d0 d1 d2
      go_wp2_with fail
      refine CI2.out.mono ?_
      rintro e w3 ⟨rfl, hb⟩
      have HB3 := hid (HB2.out.trans (hb.mono HB2.out.size))
      clear hb
      go_wp2_with fail
      go_ret
      exact ⟨by rw [HX.out]; rfl, HB3.out⟩
end Go.Proofs.YtlifaeleoiodkaaGreatDoor
