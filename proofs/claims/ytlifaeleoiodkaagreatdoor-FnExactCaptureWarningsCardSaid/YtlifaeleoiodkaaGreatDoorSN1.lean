/-
  RECORDS SENT: the program's takers: handlers as functions, in a map. By gen_sn.py.
-/
import Derived.Test.YtlifaeleoiodkaaGreatDoorGM
import Derived.Test.YtlifaeleoiodkaaGreatDoorFRM
import Derived.Test.YtlifaeleoiodkaaGreatDoorApp
import Derived.Deep.RegionHeld3
namespace Go.Proofs.YtlifaeleoiodkaaGreatDoor
open Go.RowKit Go.Proofs.YtlifaeleoiodkaaGreatDoor.Nm
open Go.WideMaps
set_option linter.unusedSimpArgs false
set_option linter.unusedVariables false

/-- a handler as a function: what it captures -/
def clo (b : Nat) : Value := .func (.func 151) #[] #[.pointer (some ⟨b, 0, none⟩)]
theorem makeFn (fn : Fn) (first cap : Array Value) (w : World) : (Instr.makeFunc fn first cap).run Tryz.prog w = .ok (.func fn first cap) w := rfl
set_option maxHeartbeats 400000 in
set_option maxRecDepth 100000 in
theorem takerOf_c (hn : ByteArray) (lv : Int) (A : Option Addr) (n c : Nat) (w : World) :
    Calls Tryz.prog 141 #[.agg #[.string hn, .int .i64 lv, .slice A n c]] w fun e w' => e = .returned (clo w.heap.size) ∧ w' = w.alloc (.cells #[.string hn, .int .i64 lv, .slice A n c] 125) := by
  have hmf := makeFn
  go_enter Tryz.func141, Tryz.ntmps141
  go_wp2_with fail
  go_ret
  exact ⟨rfl, rfl⟩
/-- a run of a store into a map -/
theorem MapP.runs {w : World} {b n : Nat} {g : List UInt8 → Option Value} (h : MapP w b n g) (t e : TypeId) (ht : Tryz.prog.underlying t = some (.map 9 e)) (hn : n < maxLen) (s : ByteArray) (hs : s.size ≤ maxLen) (u : Value) :
    ∃ w', (Instr.mapUpdate t (.map (some b)) (.string s) u).run Tryz.prog w = .ok () w' ∧ MapP w' b (n + 1) (fun l => if l = s.data.toList then some u else g l) ∧ w.grownBy w' (some b) := by
  obtain ⟨D, h1, h2, h3, h3'⟩ := h
  obtain ⟨w', hrun, h4, h5⟩ := h2.update (Maps.string_keyed Tryz.underlying9) ht hn (keyOf_string_mk Tryz.underlying9 hs) (show asHeld u = some (.held u, []) from rfl)
  refine ⟨w', hrun, ⟨_, ?_, h4, fun z l => ?_, fun l => ?_⟩, h5⟩
  · obtain ⟨es, rfl⟩ := h1; exact ⟨_, rfl⟩
  · by_cases hl : l = s.data.toList
    · subst hl
      rw [Maps.atKey_put_same h1 (by trivial)]; simp
    · rw [Maps.atKey_put_other (by intro e; injection e with e; exact hl e), h3]; simp [hl]
  · by_cases hl : l = s.data.toList
    · subst hl
      rw [Maps.has_put_same h1 (by trivial)]; simp
    · rw [Maps.has_put_other (by intro e; injection e with e; exact hl e), h3']; simp [hl]
theorem wpList_insP (w : World) {ops : Array Oper} {rest : List Oper} {o : Oper} {a : Act} {Q : Exit → Act → World → Prop} {b n : Nat} {g : List UInt8 → Option Value} (h : MapP w b n g)
    (t e : TypeId) (ht : Tryz.prog.underlying t = some (.map 9 e)) (hg : o.guard = none) (m x v : Operand) (hop : o.op = Op.insert t m x v) (hm : a.eval m = .map (some b)) (hn : n < maxLen)
    (s : ByteArray) (hs : s.size ≤ maxLen) (u : Value) (hx : a.eval x = .string s) (hv : a.eval v = u)
    (hK : ∀ w', MapP w' b (n + 1) (fun l => if l = s.data.toList then some u else g l) → w.grownBy w' (some b) → wpList Tryz.prog ops Q rest (a.put o.dst undef) w') :
    wpList Tryz.prog ops Q (o :: rest) a w := by
  obtain ⟨w', hrun, r1, r2⟩ := h.runs t e ht hn s hs u
  refine wpList_plain hg fun K' hK' => ?_
  unfold Oper.wp
  simp [execOp, hop, hm, hx, hv, hrun, Result.andThen]
  exact hK' _ _ (hK w' r1 r2)

def TakePost (w : World) (nm tx : ByteArray) (sq : Int) (r : Int × Int) (e : Ending) (w' : World) : Prop := e = .returned (.tuple #[.agg #[.string nm, .int .i64 r.2, .string tx, .int .i64 sq], .int .i64 r.1]) ∧ Below w.heap.size w w'
set_option maxHeartbeats 4000000 in
set_option maxRecDepth 100000 in
theorem takerClo_c {w : World} {hb B fn fc : Nat} {A : Option Addr} {h : Hnd} {hn : ByteArray} (nm tx : ByteArray) (lv sq : Int) (hbox : Blk w hb [.string hn, .int .i64 h.lv, .slice A fn fc]) (hfs : Fs w B fn (.slice A fn fc) h.fs) (hB : B ≤ w.heap.size)
    (hok : filtersOk h.fs = true) (hrec : recOk ⟨nm.data.toList, lv, tx.data.toList, sq⟩ = true) (hnm : nm.size ≤ 1048576) (htx : tx.size ≤ 1048576) :
    Calls Tryz.prog 151 #[.agg #[.string nm, .int .i64 lv, .string tx, .int .i64 sq], .pointer (some ⟨hb, 0, none⟩)] w (TakePost w nm tx sq (askH nm.data.toList tx.data.toList h lv)) := by
  have HB0 := hid (show Below w.heap.size w ((w.alloc (.cells #[.string nm, .int .i64 lv, .string tx, .int .i64 sq] 61)).alloc (.cells #[.string ⟨#[]⟩, .int .i64 0, .string ⟨#[]⟩, .int .i64 0] 61)) by go_grown)
  have HK0 := hid ((Blk.new w #[.string nm, .int .i64 lv, .string tx, .int .i64 sq] 61).alloc (.cells #[.string ⟨#[]⟩, .int .i64 0, .string ⟨#[]⟩, .int .i64 0] 61))
  have HZ0 := hid (Blk.new (w.alloc (.cells #[.string nm, .int .i64 lv, .string tx, .int .i64 sq] 61)) #[.string ⟨#[]⟩, .int .i64 0, .string ⟨#[]⟩, .int .i64 0] 61)
  simp only [World.size_alloc] at HZ0
  have g1 := (hbox.2 1 _ rfl).1
  have g2 := (hbox.2 2 _ rfl).1
  have hlt := hbox.1
  generalize hhl : h.lv = hl at *
  have HHL := hid hhl
  by_cases hq : lv < hl
  · have HX := hid (show askH nm.data.toList tx.data.toList h lv = (5, lv) from askH_low (by rw [HHL.out]; exact hq))
    clear hhl hbox hfs hok hrec
    go_enter Tryz.func151, Tryz.ntmps151
    go_wp2_with fail
    have RB := Blk.new (w.alloc (.cells #[.string nm, .int .i64 lv, .string tx, .int .i64 sq] 61)) #[.string nm, .int .i64 lv, .string tx, .int .i64 sq] 61
    simp only [World.size_alloc] at RB
    have f0 := (RB.2 0 _ rfl).1
    have f1 := (RB.2 1 _ rfl).1
    have f2 := (RB.2 2 _ rfl).1
    have f3 := (RB.2 3 _ rfl).1
    refine bodyPost_ret (v := .tuple #[.agg #[.string nm, .int .i64 lv, .string tx, .int .i64 sq], .int .i64 5]) (by simp [results, Tryz.results151, go_sem, f0, f1, f2, f3]) rfl ?_
    refine ⟨by rw [HX.out], ?_⟩
    go_grown
  · have CF := hid (fun (W : World) (hW : Below w.heap.size w W) => implFilterRecord_c (.slice A fn fc) fn B h.fs nm tx lv sq W ⟨hfs.1.below hW hB, hfs.2⟩ (Nat.le_trans hB hW.size) hnm htx)
    rw [show fX h.fs nm tx lv sq = filtL nm.data.toList tx.data.toList h.fs lv by unfold fX; rw [hok, hrec]; rfl] at CF
    have HXn := hid (fun (hf : filtL nm.data.toList tx.data.toList h.fs lv = none) => askH_drop (by rw [HHL.out]; exact hq) hf)
    have HXs := hid (fun (v : Int) (hf : filtL nm.data.toList tx.data.toList h.fs lv = some v) => askH_sent (by rw [HHL.out]; exact hq) hf)
    generalize askH nm.data.toList tx.data.toList h lv = X at HXn HXs ⊢
    generalize filtL nm.data.toList tx.data.toList h.fs lv = fl at CF HXn HXs
    clear hhl hbox hfs hok hrec
    go_enter Tryz.func151, Tryz.ntmps151
    go_wp2_with fail
    refine (CF.out _ HB0.out).mono ?_
    rintro e w1 ⟨he, hb⟩
    have HB1 := hid (HB0.out.trans (hb.mono HB0.out.size))
    have HK1 := hid (HK0.out.to hb)
    have HZ1 := hid (HZ0.out.to hb)
    clear hb g1 g2
    have hsz := HZ1.out.1
    have hsz0 := HK1.out.1
    have d0 := (HK1.out.2 0 _ rfl).1
    have d1 := (HK1.out.2 1 _ rfl).1
    have d2 := (HK1.out.2 2 _ rfl).1
    have d3 := (HK1.out.2 3 _ rfl).1
    obtain ⟨r0, y0⟩ := HZ1.out.2 0 _ rfl
    obtain ⟨r1, y1⟩ := HZ1.out.2 1 _ rfl
    obtain ⟨r2, y2⟩ := HZ1.out.2 2 _ rfl
    obtain ⟨r3, y3⟩ := HZ1.out.2 3 _ rfl
    cases fl with
    | none =>
      simp only [recOut, Option.isSome] at he
      subst he
      go_wp2_with fail
      have RB := ((((HZ1.out.set 0 (.string nm)).set 1 (.int .i64 lv)).set 2 (.string tx)).set 3 (.int .i64 sq)).alloc (.cells #[.string ⟨#[]⟩, .int .i64 0, .string ⟨#[]⟩, .int .i64 0] 61)
      have f0 := (RB.2 0 _ rfl).1
      have f1 := (RB.2 1 _ rfl).1
      have f2 := (RB.2 2 _ rfl).1
      have f3 := (RB.2 3 _ rfl).1
      refine bodyPost_ret (v := .tuple #[.agg #[.string nm, .int .i64 lv, .string tx, .int .i64 sq], .int .i64 6]) (by simp [results, Tryz.results151, go_sem, f0, f1, f2, f3]) rfl ?_
      refine ⟨by rw [HXn.out (by first | rfl | trivial)], ?_⟩
      refine Below.alloc ?_ (by simp; omega) _
      iterate 4 refine Below.setCell ?_ (by simp) _
      exact HB1.out
    | some q =>
      simp only [recOut, Option.isSome] at he
      subst he
      go_wp2_with fail
      have RB := ((((HZ1.out.set 0 (.string nm)).set 1 (.int .i64 q)).set 2 (.string tx)).set 3 (.int .i64 sq)).alloc (.cells #[.string nm, .int .i64 q, .string tx, .int .i64 sq] 61)
      have f0 := (RB.2 0 _ rfl).1
      have f1 := (RB.2 1 _ rfl).1
      have f2 := (RB.2 2 _ rfl).1
      have f3 := (RB.2 3 _ rfl).1
      refine bodyPost_ret (v := .tuple #[.agg #[.string nm, .int .i64 q, .string tx, .int .i64 sq], .int .i64 0]) (by simp [results, Tryz.results151, go_sem, f0, f1, f2, f3]) rfl ?_
      refine ⟨by rw [HXs.out q (by first | rfl | trivial)], ?_⟩
      refine Below.alloc ?_ (by simp; omega) _
      iterate 4 refine Below.setCell ?_ (by simp) _
      exact HB1.out

/-- what the map of takers holds behind the first k handlers -/
def tkF (ns : List (List UInt8)) (b0 : Nat) (nb : Nat → Nat) : Nat → List UInt8 → Option Value
  | 0, l => if l = lastL then some (clo b0) else none
  | k + 1, l => if l = ns.getD k [] then some (clo (nb k)) else tkF ns b0 nb k l
theorem tkF_congr {ns : List (List UInt8)} {b0 : Nat} {nb nb' : Nat → Nat} {k : Nat} (h : ∀ j, j < k → nb j = nb' j) (l : List UInt8) : tkF ns b0 nb k l = tkF ns b0 nb' k l := by
  induction k with
  | zero => rfl
  | succ k ih => simp only [tkF]; rw [ih (fun j hj => h j (by omega)), h k (by omega)]
def lastB : ByteArray := ⟨#[108, 97, 115, 116]⟩
def TakersPost (w : World) (hs : List HndV) (n : Nat) (e : Ending) (w' : World) : Prop :=
  ∃ (M b0 m : Nat) (nb : Nat → Nat), e = .returned (.map (some M)) ∧ MapP w' M m (tkF (hnames hs) b0 nb n) ∧ Blk w' b0 [.string lastB, .int .i64 30, .slice none 0 0] ∧ (∀ (j : Nat) (x : HndV), j < n → hs[j]? = some x → Blk w' (nb j) (hcells x)) ∧ Below w.heap.size w w' ∧ w.heap.size ≤ M ∧ w.heap.size ≤ b0 ∧ ∀ (j : Nat) (x : HndV), j < n → hs[j]? = some x → w.heap.size ≤ nb j
set_option maxHeartbeats 4000000 in
set_option maxRecDepth 100000 in
theorem takersOf_c (v : Value) (n B : Nat) (hs : List HndV) (w : World) (hv : Hs w B n v hs) (hB : B ≤ w.heap.size) (hn : n ≤ 6) :
    Calls Tryz.prog 127 #[v] w (TakersPost w hs n) := by
  have hln := Sl.count hcells_len hv.1 (by omega)
  obtain ⟨A, c, rfl, hnc, hcm⟩ := hv.1.form
  unfold maxLen at hcm
  have HV := hid (And.intro hv hln)
  have HM0 := hid ((MapP.made w).alloc' (.cells #[.string lastB, .int .i64 30, .slice none 0 0] 125))
  have HK0 := hid (Blk.new (w.alloc (.map #[] 0)) #[.string lastB, .int .i64 30, .slice none 0 0] 125)
  simp only [World.size_alloc] at HK0
  have hmm := @run_makeMap Tryz.prog
  have CT := hid (fun (W : World) => takerOf_c lastB 30 none 0 0 W)
  clear hv hln
  go_enter Tryz.func127, Tryz.ntmps127
  go_wp2_with (first | (go_at_call 141; refine (CT.out _).mono ?_; rintro e w1 ⟨rfl, h9⟩; subst h9) | (refine wpList_insP _ HM0.out 177 180 Tryz.underlying177 rfl _ _ _ rfl rfl (by unfold maxLen; omega) lastB (by unfold maxLen; decide) _ rfl rfl ?_))
  intro w2 hM2 hg2
  have hM3 := hM2.congr (g' := tkF (hnames hs) (w.heap.size + 1) (fun _ => 0) 0) (fun l => rfl)
  have HK2 := hid (HK0.out.kept hg2 (by simp))
  have HB2 := hid (show Below w.heap.size w w2 from (show Below w.heap.size w ((w.alloc (.map #[] 0)).alloc (.cells #[.string lastB, .int .i64 30, .slice none 0 0] 125)) by go_grown).grown hg2 (by simp; omega) (by intro z hz; cases hz; omega))
  have HM2 := hid hM3
  have hsz2 : w.heap.size + 1 < w2.heap.size := HK2.out.1
  clear hM2 hM3 hg2
  go_wp2_with fail
  clear hmm
  go_loopw [12] (fun cv wr => ∃ (k m : Nat) (nb : Nat → Nat), cv = .int .i64 k ∧ k ≤ n ∧ Hid (m ≤ k + 1) ∧ Hid (MapP wr w.heap.size m (tkF (hnames hs) (w.heap.size + 1) nb k)) ∧ Hid (∀ (j : Nat) (x : HndV), j < k → hs[j]? = some x → Blk wr (nb j) (hcells x) ∧ w.heap.size < nb j) ∧ Hid (Blk wr (w.heap.size + 1) [.string lastB, .int .i64 30, .slice none 0 0]) ∧ Hid (Below w.heap.size w wr)) (fun cv _ => n - (intOf cv).toNat)
  case atStart => exact ⟨0, _, fun _ => 0, rfl, by omega, Nat.le_refl _, HM2.out, fun j x hj => by omega, HK2.out, HB2.out⟩
  case round =>
    obtain ⟨k, m, nb, rfl, hk, HMm, HM, HN, HK, HB⟩ := hrel
    by_cases hlt : k < n
    · obtain ⟨b, o, x, s, rfl, hbB, hx, hsx, hsz, hfx, g0, g1, g2⟩ := HV.out.1.at_ hlt
      obtain ⟨A4, k4, hfv, _, _⟩ := hfx.1.form
      rw [hfv] at g2
      have c0 : wr.cell? ⟨b, o + k * 3, none⟩ = some (.string s) := (HB.out.cell (p := ⟨b, o + k * 3, none⟩) (by show b < _; omega)).trans g0
      have c1 : wr.cell? ⟨b, o + k * 3 + 1, none⟩ = some (.int .i64 x.h.lv) := (HB.out.cell (p := ⟨b, o + k * 3 + 1, none⟩) (by show b < _; omega)).trans g1
      have c2 : wr.cell? ⟨b, o + k * 3 + 2, none⟩ = some (.slice A4 x.fn k4) := (HB.out.cell (p := ⟨b, o + k * 3 + 2, none⟩) (by show b < _; omega)).trans g2
      have HX := hid (And.intro hx (And.intro hsx hfv))
      have hsm : s.size ≤ maxLen := by unfold maxTxt at hsz; unfold maxLen; omega
      have hrs := HK.out.1
      have hrs0 : w.heap.size < wr.heap.size := by omega
      generalize hxl : x.h.lv = xl at c1
      have HXL := hid hxl
      clear hxl
      clear hx hsx hfx hfv g0 g1 g2 hsz
      have HM5 := hid (HM.out.alloc' (.cells #[.string s, .int .i64 xl, .slice A4 x.fn k4] 125))
      have YB := hid (Blk.new wr #[.string s, .int .i64 xl, .slice A4 x.fn k4] 125)
      have HK5 := hid (HK.out.alloc (.cells #[.string s, .int .i64 xl, .slice A4 x.fn k4] 125))
      have HB5 := hid (HB.out.alloc HB.out.size (.cells #[.string s, .int .i64 xl, .slice A4 x.fn k4] 125))
      have HN5 := hid (fun (j : Nat) (x' : HndV) (hj : j < k) (hx' : hs[j]? = some x') => And.intro ((HN.out j x' hj hx').1.alloc (.cells #[.string s, .int .i64 xl, .slice A4 x.fn k4] 125)) (HN.out j x' hj hx').2)
      go_wp2_with fail
      generalize wr.heap.size = b5 at *
      generalize wr.alloc (.cells #[.string s, .int .i64 xl, .slice A4 x.fn k4] 125) = wb at *
      have y0 := (YB.out.2 0 _ rfl).1
      have y1 := (YB.out.2 1 _ rfl).1
      have y2 := (YB.out.2 2 _ rfl).1
      have CT5 := hid (takerOf_c s xl A4 x.fn k4 wb.drew)
      refine wp_region_held_drew (S := (fun w' : World => w'.cell? ⟨b5, 0, none⟩ = some (.string s) ∧ w'.cell? ⟨b5, 1, none⟩ = some (.int .i64 xl) ∧ w'.cell? ⟨b5, 2, none⟩ = some (.slice A4 x.fn k4))) (by kernel_rfl) ⟨y0, y1, y2⟩ (fun hS => ?_)
      refine wpAnyH_take (i := 0) (oi := ?oi101) (v := ?v101) ?hi101 (by kernel_rfl) ?hf101 ?hr101 ?hQ101 (Or.inl ⟨?hw101, ?hy101⟩) (by assumption) ?rest101
      case hi101 => simp only [List.getElem?_toArray, List.getElem?_cons_succ, List.getElem?_cons_zero]; rfl
      case hf101 => kernel_rfl
      case hr101 => kernel_rfl
      case hw101 => rfl
      case hy101 => (intro w hSw; (try dsimp only at hSw); go_simp; all_goals (first | done | with_reducible rfl))
      case hQ101 => exact fun _ _ _ h => h
      simp only [Act.put, List.setIfInBounds_toArray, List.set_cons_zero, List.set_cons_succ]
      refine wpAnyH_take (i := 1) (oi := ?oi102) (v := ?v102) ?hi102 (by kernel_rfl) ?hf102 ?hr102 ?hQ102 (Or.inl ⟨?hw102, ?hy102⟩) (by assumption) ?rest102
      case hi102 => simp only [List.getElem?_toArray, List.getElem?_cons_succ, List.getElem?_cons_zero]; rfl
      case hf102 => kernel_rfl
      case hr102 => kernel_rfl
      case hw102 => rfl
      case hy102 => (intro w hSw; (try dsimp only at hSw); go_simp; all_goals (first | done | with_reducible rfl))
      case hQ102 => exact fun _ _ _ h => h
      simp only [Act.put, List.setIfInBounds_toArray, List.set_cons_zero, List.set_cons_succ]
      refine wpAnyH_take (i := 2) (oi := ?oi103) (v := ?v103) ?hi103 (by kernel_rfl) ?hf103 ?hr103 ?hQ103 (Or.inl ⟨?hw103, ?hy103⟩) (by assumption) ?rest103
      case hi103 => simp only [List.getElem?_toArray, List.getElem?_cons_succ, List.getElem?_cons_zero]; rfl
      case hf103 => kernel_rfl
      case hr103 => kernel_rfl
      case hw103 => rfl
      case hy103 => (intro w hSw; (try dsimp only at hSw); go_simp; all_goals (first | done | with_reducible rfl))
      case hQ103 => exact fun _ _ _ h => h
      simp only [Act.put, List.setIfInBounds_toArray, List.set_cons_zero, List.set_cons_succ]
      refine wpAnyH_take (i := 3) (oi := ?oi104) (v := ?v104) ?hi104 (by kernel_rfl) ?hf104 ?hr104 ?hQ104 (Or.inl ⟨?hw104, ?hy104⟩) (by assumption) ?rest104
      case hi104 => simp only [List.getElem?_toArray, List.getElem?_cons_succ, List.getElem?_cons_zero]; rfl
      case hf104 => kernel_rfl
      case hr104 => kernel_rfl
      case hw104 => rfl
      case hy104 => (intro w hSw; (try dsimp only at hSw); go_simp; all_goals (first | done | with_reducible rfl))
      case hQ104 => exact fun _ _ _ h => h
      simp only [Act.put, List.setIfInBounds_toArray, List.set_cons_zero, List.set_cons_succ]
      refine wpAnyH_ready (rs := [4]) (by kernel_rfl) (by simp) ?_
      refine AllReadyH.cons (o := ?oi105) ?hi105 (fun K hK => ?step105) AllReadyH.nil
      case hi105 => simp only [List.getElem?_toArray, List.getElem?_cons_succ, List.getElem?_cons_zero]; rfl
      rw [if_pos (by rfl)]
      go_simp
      go_at_call 141
      refine (CT5.out).mono ?_
      rintro e w9 ⟨rfl, h9⟩
      have HM9 := hid (show MapP w9 w.heap.size m (tkF (hnames hs) (w.heap.size + 1) nb k) by rw [h9]; exact (HM5.out.kept (grownBy_drew (World.grownBy.refl _ none)) (by simp)).alloc' _)
      have hb9 : Below wb.heap.size wb w9 := by rw [h9]; exact (Below.refl _ _).drew.alloc (by simp) _
      have YB9 := hid (show Blk w9 wb.heap.size [.string s, .int .i64 xl, .slice A4 x.fn k4] by rw [h9]; exact Blk.new wb.drew #[.string s, .int .i64 xl, .slice A4 x.fn k4] 125)
      have HB9 := hid (HB5.out.trans (hb9.mono HB5.out.size))
      have HK9 := hid (HK5.out.to hb9)
      have YB5 := hid (YB.out.to hb9)
      have HN9 := hid (fun (j : Nat) (x' : HndV) (hj : j < k) (hx' : hs[j]? = some x') => And.intro ((HN5.out j x' hj hx').1.to hb9) (HN5.out j x' hj hx').2)
      clear h9
      refine hK.out _ _ ⟨(YB5.out.2 0 _ rfl).1, (YB5.out.2 1 _ rfl).1, (YB5.out.2 2 _ rfl).1⟩ (fun hS9 => ?_)
      obtain ⟨w8, hrun, hM8, hg8⟩ := HM9.out.runs 177 180 Tryz.underlying177 (by unfold maxLen; have := HMm.out; omega) s hsm (clo wb.heap.size)
      have hne5 : some b5 ≠ some w.heap.size := by simp; omega
      have YB8 := hid (YB5.out.kept hg8 hne5)
      have hwb : w.heap.size < wb.heap.size := by have := YB.out.1; omega
      have HM8 := hid (hM8.congr (g' := tkF (hnames hs) (w.heap.size + 1) (fun j => if j = k then wb.heap.size else nb j) (k + 1)) (by
        intro l
        have e1 : (hnames hs).getD k [] = s.data.toList := by rw [HX.out.2.1]; simp [hnames, List.getD, HX.out.1]
        simp only [tkF, e1, if_true]
        rw [tkF_congr (nb' := fun j => if j = k then wb.heap.size else nb j) (fun j hj => by rw [if_neg (by omega)])]))
      have HN8 := hid (show ∀ (j : Nat) (x' : HndV), j < k + 1 → hs[j]? = some x' → Blk w8 (if j = k then wb.heap.size else nb j) (hcells x') ∧ w.heap.size < (if j = k then wb.heap.size else nb j) by
        intro j x' hj hx'
        by_cases e : j = k
        · subst e
          rw [if_pos rfl]
          rw [HX.out.1] at hx'
          cases hx'
          refine ⟨?_, hwb⟩
          have h9 := YB9.out.kept hg8 (by simp; omega)
          rw [hcells, ← HX.out.2.1, HX.out.2.2, HXL.out, txt_data]
          exact h9
        · rw [if_neg e]
          obtain ⟨hb1, hb2⟩ := HN9.out j x' (by omega) hx'
          exact ⟨hb1.kept hg8 (by simp; omega), hb2⟩)
      have HK8 := hid (HK9.out.kept hg8 (by simp))
      have HB8 := hid (HB9.out.grown hg8 HB9.out.size (by intro z hz; cases hz; omega))
      refine wpAnyH_ready (rs := [5]) (by kernel_rfl) (by simp) ?_
      refine AllReadyH.cons (o := ?oi106) ?hi106 (fun K hK => ?step106) AllReadyH.nil
      case hi106 => simp only [List.getElem?_toArray, List.getElem?_cons_succ, List.getElem?_cons_zero]; rfl
      rw [if_pos (by rfl)]
      go_simp
      refine hK.out _ _ ⟨(YB8.out.2 0 _ rfl).1, (YB8.out.2 1 _ rfl).1, (YB8.out.2 2 _ rfl).1⟩ (fun hS9 => ?_)
      refine wpAnyH_done (by kernel_rfl) ?_ _
      clear hrun hM8 hg8 c0 c1 c2 y0 y1 y2 hS
      go_wp2_with fail
      go_roundw
      case rel => exact ⟨k + 1, m + 1, _, by go_num, by omega, by have := HMm.out; show m + 1 ≤ k + 1 + 1; omega, HM8.out, HN8.out, HK8.out, HB8.out⟩
      case measure => simp [intOf]; omega
    · obtain rfl : k = n := by omega
      go_wp2_with fail
      go_ret
      exact ⟨_, _, m, nb, rfl, HM.out, HK.out, fun j x hj hx => (HN.out j x hj hx).1, HB.out, Nat.le_refl _, by omega, fun j x hj hx => Nat.le_of_lt (HN.out j x hj hx).2⟩
end Go.Proofs.YtlifaeleoiodkaaGreatDoor
