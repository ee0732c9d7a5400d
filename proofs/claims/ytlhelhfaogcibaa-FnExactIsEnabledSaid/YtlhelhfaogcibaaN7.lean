/-
  WALKS: the program's nodes: nearest, hang.
-/
import Derived.Test.YtlhelhfaogcibaaN6
import Derived.Test.YtlhelhfaogcibaaM4
namespace Go.Proofs.Ytlhelhfaogcibaa
open Go.RowKit Nm
set_option linter.unusedSimpArgs false
set_option linter.unusedVariables false

/-- what the map of nodes holds of the first k names -/
def gF (ns : List Name) (nb : Nat → Nat) : Nat → Name → Option Value
  | 0, _ => none
  | k + 1, l => if l = ns.getD k [] then some (.pointer (some ⟨nb k, 0, none⟩)) else gF ns nb k l
theorem gF_congr {ns : List Name} {nb nb' : Nat → Nat} {k : Nat} (h : ∀ j, j < k → nb j = nb' j) (l : Name) : gF ns nb k l = gF ns nb' k l := by
  induction k with
  | zero => rfl
  | succ k ih => simp only [gF]; rw [ih (fun j hj => h j (by omega)), h k (by omega)]
theorem gF_some {ns : List Name} {nb : Nat → Nat} {k : Nat} {l : Name} {v : Value} (h : gF ns nb k l = some v) : ∃ j, j < k ∧ ns.getD j [] = l ∧ v = .pointer (some ⟨nb j, 0, none⟩) := by
  induction k with
  | zero => cases h
  | succ k ih =>
    simp only [gF] at h
    split at h
    · rename_i e
      exact ⟨k, by omega, e.symm, (Option.some.inj h).symm⟩
    · obtain ⟨j, h1, h2⟩ := ih h
      exact ⟨j, by omega, h2⟩
theorem gF_none {ns : List Name} {nb : Nat → Nat} {k : Nat} {l : Name} (h : gF ns nb k l = none) : ∀ j, j < k → ns.getD j [] ≠ l := by
  induction k with
  | zero => intro j hj; omega
  | succ k ih =>
    simp only [gF] at h
    split at h
    · cases h
    · rename_i e
      intro j hj
      by_cases ej : j = k
      · subst ej; exact fun e2 => e e2.symm
      · exact ih h j (by omega)
theorem at_getD {ns : List Name} {j : Nat} {x : Name} (h : ns[j]? = some x) : ns.getD j [] = x := by simp [List.getD, h]
theorem getD_at {ns : List Name} {j : Nat} (h : j < ns.length) : ns[j]? = some (ns.getD j []) := by simp [List.getD, h]
theorem nodup_at {ns : List Name} (hn : ns.Nodup) {i j : Nat} (hi : i < ns.length) (hj : j < ns.length) (e : ns.getD i [] = ns.getD j []) : i = j := by
  have g1 : ns.getD i [] = ns[i] := by simp [List.getD, hi]
  have g2 : ns.getD j [] = ns[j] := by simp [List.getD, hj]
  rw [g1, g2] at e
  exact (List.getElem_inj hn).1 e
theorem gF_hit {ns : List Name} {nb : Nat → Nat} (hn : ns.Nodup) {k j : Nat} (hk : k ≤ ns.length) (hj : j < k) : gF ns nb k (ns.getD j []) = some (.pointer (some ⟨nb j, 0, none⟩)) := by
  cases h : gF ns nb k (ns.getD j []) with
  | none => exact absurd rfl (gF_none h j hj)
  | some v =>
    obtain ⟨i, h1, h2, rfl⟩ := gF_some h
    rw [nodup_at hn (by omega) (by omega) h2]
theorem zeroNode (w : World) : (zeroValue 58).run Try.prog w = .ok (.pointer none) w := by kernel_rfl
/-- the number of words of a text in a slot -/
def deep : Value → Nat
  | .string y => (partsL y.data.toList).length
  | _ => 0

theorem implAbove_c' (s : ByteArray) (w : World) (hs : s.size ≤ maxLen) :
    Calls Try.prog 79 #[.string s] w fun e w' => e = .returned (txt (aboveL s.data.toList)) ∧ w = w' :=
  (implAbove_c s w hs).mono fun _ _ h => ⟨h.1, h.2.symm⟩

set_option maxHeartbeats 2000000 in
set_option maxRecDepth 100000 in
theorem implNearest_c (M m : Nat) (ns : List Name) (nb : Nat → Nat) (x : ByteArray) (w : World) (hM : MapP w M m (gF ns nb ns.length)) (h0 : ns[0]? = some []) (hnd : ns.Nodup) (hx : nameOk x.data.toList = true) :
    Calls Try.prog 71 #[.map (some M), .string x] w fun e w' => e = .returned (.pointer (some ⟨nb (nearN ns x.data.toList), 0, none⟩)) ∧ w = w' := by
  have HM := hid hM
  have HN := hid (And.intro h0 hnd)
  have HX := hid hx
  clear hM h0 hnd hx
  go_enter Try.func71, Try.ntmps71
  go_wp2_with fail
  go_loop [1] (fun v => ∃ y : ByteArray, v = .string y ∧ Hid (nameOk y.data.toList = true ∧ nearN ns y.data.toList = nearN ns x.data.toList)) (fun v => deep v)
  case atStart => exact ⟨x, rfl, HX.out, rfl⟩
  case round =>
    obtain ⟨y, rfl, HY⟩ := hrel
    have hys : y.size ≤ maxLen := by have := name_size _ HY.out.1; rw [← Lib.size_eq] at this; unfold maxLen; omega
    have hlook := HM.out.look Try.underlying71 (zeroNode w) y hys
    cases hg : gF ns nb ns.length y.data.toList with
    | none =>
      rw [hg] at hlook
      have hlook' : (Instr.lookup 71 (.map (some M)) (.string y) false).run Try.prog w = .ok (.pointer none) w := hlook
      have HG := hid (gF_none hg)
      have hne : y.data.toList ≠ [] := by
        intro e
        have hl := (List.getElem?_eq_some_iff.1 HN.out.1).1
        exact HG.out 0 hl ((at_getD HN.out.1).trans e.symm)
      have hmem : y.data.toList ∉ ns := by
        intro hm
        obtain ⟨j, hj, e⟩ := List.getElem_of_mem hm
        exact HG.out j hj (by simp [List.getD, hj, e])
      obtain ⟨ap, hap, hap2⟩ := txt_mk (aboveL y.data.toList)
      have AB := hid (fun W => implAbove_c' y W hys)
      rw [hap] at AB
      have H2 := hid (show nameOk ap.data.toList = true ∧ nearN ns ap.data.toList = nearN ns x.data.toList by
        rw [hap2]; exact ⟨(above_name HY.out.1).1, (near_miss HY.out.1 hmem).trans HY.out.2⟩)
      have H3 := hid (show (partsL ap.data.toList).length < (partsL y.data.toList).length by rw [hap2]; exact above_shorter HY.out.1 hne)
      clear hg hlook hap hap2 hne hmem
      go_wp2_with (go_at_call 79; refine (AB.out _).mono ?_; rintro e w1 ⟨rfl, rfl⟩)
      go_round
      case rel => exact ⟨ap, rfl, H2.out⟩
      case measure => exact H3.out
    | some v =>
      obtain ⟨j, hj, e, rfl⟩ := gF_some hg
      rw [hg] at hlook
      have hlook' : (Instr.lookup 71 (.map (some M)) (.string y) false).run Try.prog w = .ok (.pointer (some ⟨nb j, 0, none⟩)) w := hlook
      have HE := hid (show nearN ns x.data.toList = j by rw [← HY.out.2]; exact near_hit HN.out.1 HN.out.2 _ _ (by rw [getD_at hj, e]))
      clear hg hlook e
      go_wp2_with fail
      go_ret
      exact ⟨by rw [HE.out]; rfl, rfl⟩

/-- where the node of logger j hangs -/
def upV (ns : List Name) (nb : Nat → Nat) (j : Nat) (bare : Bool) : Value := if bare || decide (ns.getD j [] = []) then .pointer none else .pointer (some ⟨nb (upN ns j), 0, none⟩)
/-- the nodes of loggers that lie at block b -/
def Nodes (w : World) (b o : Nat) (ns : List Name) (nb : Nat → Nat) (left : Name → Bool) : Prop :=
  ∀ j, j < ns.length → Blk w (nb j) [.pointer (some ⟨b, o + j * 6, none⟩), upV ns nb j (left (ns.getD j []))]
theorem Nodes.below {w w' : World} {B b o : Nat} {ns : List Name} {nb : Nat → Nat} {left : Name → Bool} (h : Nodes w b o ns nb left) (hb : Below B w w') (hB : ∀ j, j < ns.length → nb j < B) : Nodes w' b o ns nb left :=
  fun j hj => (h j hj).below hb (hB j hj)
theorem Nodes.to {w w' : World} {b o : Nat} {ns : List Name} {nb : Nat → Nat} {left : Name → Bool} (h : Nodes w b o ns nb left) (hb : Below w.heap.size w w') : Nodes w' b o ns nb left :=
  fun j hj => (h j hj).to hb
def HangPost (w : World) (b o : Nat) (ns : List Name) (e : Ending) (w' : World) : Prop :=
  ∃ M nb m, e = .returned (.map (some M)) ∧ MapP w' M m (gF ns nb ns.length) ∧ Nodes w' b o ns nb (fun _ => false) ∧ Below w.heap.size w w'
theorem nodes_first {w : World} {b o : Nat} {ns : List Name} {nb : Nat → Nat} (h : ∀ j, j < ns.length → Blk w (nb j) [.pointer (some ⟨b, o + j * 6, none⟩), .pointer none]) {left : Name → Bool} (hl : ∀ j, j < ns.length → left (ns.getD j []) = true) : Nodes w b o ns nb left := by
  intro j hj
  have := h j hj
  unfold upV
  rw [hl j hj]
  exact this

set_option maxHeartbeats 8000000 in
set_option maxRecDepth 100000 in
theorem implHang_c (A1 A2 : Option Addr) (n1 k1 n2 k2 B b o : Nat) (q : Int) (ls : List LgrV) (w : World) (hl : Ls w B n1 (.slice (some ⟨b, o, none⟩) n1 k1) ls) (hB : B ≤ w.heap.size) (hn : n1 ≤ 1048576)
    (h0 : (lnames ls)[0]? = some []) (hnd : (lnames ls).Nodup) (hok : ∀ z ∈ lnames ls, nameOk z = true) :
    Calls Try.prog 53 #[.agg #[.slice (some ⟨b, o, none⟩) n1 k1, .slice A2 n2 k2, .int .i64 q]] w (HangPost w b o (lnames ls)) := by
  have hll : (lnames ls).length = n1 := by unfold lnames; rw [List.length_map]; exact hl.count
  have HB0 := hid (show Below w.heap.size w (w.alloc (.cells #[.slice (some ⟨b, o, none⟩) n1 k1, .slice A2 n2 k2, .int .i64 q] 31)) from (Below.refl _ _).alloc (Nat.le_refl _) _)
  have HV := hid (And.intro hl (And.intro hll (And.intro h0 (And.intro hnd hok))))
  have hkc := hl.1.cap
  have hk1 := hkc.2
  have hk0 := hkc.1
  unfold maxLen at hk1
  have hmm := @run_makeMap Try.prog
  clear hl hll h0 hnd hok hkc
  go_enter Try.func53, Try.ntmps53
  go_wp2_with fail
  clear hmm
  go_loopw [4, 5, 12] (fun iv lv cv wr => ∃ (k : Nat) (nb : Nat → Nat) (u4 u5 : Value), cv = .int .i64 k ∧ iv = u4 ∧ lv = u5 ∧ k ≤ n1 ∧ Hid (MapP wr (w.heap.size + 1) k (gF (lnames ls) nb k)) ∧ Hid (∀ j, j < k → Blk wr (nb j) [.pointer (some ⟨b, o + j * 6, none⟩), .pointer none] ∧ w.heap.size + 1 < nb j) ∧
    Hid (∀ i j, i < k → j < k → nb i = nb j → i = j) ∧ Hid (Below w.heap.size w wr ∧ w.heap.size + 1 < wr.heap.size ∧ Blk wr w.heap.size [.slice (some ⟨b, o, none⟩) n1 k1, .slice A2 n2 k2, .int .i64 q])) (fun _ _ cv _ => n1 - (intOf cv).toNat)
  case atStart =>
    refine ⟨0, fun _ => 0, _, _, rfl, rfl, rfl, by omega, ?_, fun j hj => by omega, fun i j hi => by omega, ?_, ?_, ?_⟩
    · have := MapP.made (w.alloc (.cells #[.slice (some ⟨b, o, none⟩) n1 k1, .slice A2 n2 k2, .int .i64 q] 31))
      show MapP _ _ _ _
      simpa [gF] using this
    · exact HB0.out.alloc (by simp) _
    · simp
    · exact (Blk.new _ _ _).alloc _
  case round =>
    obtain ⟨k, nb, u4, u5, rfl, rfl, rfl, hk, HM, HN, HI, HB⟩ := hrel
    by_cases hlt : k < n1
    · obtain ⟨b', o', y, p, e', hbB, hy, hp, hps, _, _, g0, _⟩ := HV.out.1.at_ hlt
      obtain ⟨rfl, rfl⟩ : b = b' ∧ o = o' := by simpa using e'
      have c0 : wr.cell? ⟨b, o + k * 6, none⟩ = some (.string p) := (HB.out.1.cell (p := ⟨b, o + k * 6, none⟩) (by show b < _; omega)).trans g0
      have d0 := (HB.out.2.2.2 0 _ rfl).1
      have d1 := (HB.out.2.2.2 1 _ rfl).1
      have d2 := (HB.out.2.2.2 2 _ rfl).1
      have HP := hid (show (lnames ls).getD k [] = p.data.toList by rw [lnames_at hy, hp])
      have hpl : p.size ≤ maxLen := by unfold maxTxt at hps; unfold maxLen; omega
      have HM2 := hid (HM.out.alloc' (.cells #[.pointer (some ⟨b, o + k * 6, none⟩), .pointer none] 62))
      clear hy hp hps g0 e'
      go_wp2_with (at_mapUpdate; refine wpList_mapP _ HM2.out 71 58 Try.underlying71 rfl _ _ _ rfl rfl (by unfold maxLen; omega) p hpl _ rfl rfl ?_)
      intro w1 hM3 hg1
      have hMne : w.heap.size + 1 < wr.heap.size := HB.out.2.1
      have HM4 := hid (hM3.congr (g' := gF (lnames ls) (fun j => if j = k then wr.heap.size else nb j) (k + 1)) (by
        intro l
        simp only [gF, HP.out, if_true]
        rw [gF_congr (nb' := fun j => if j = k then wr.heap.size else nb j) (fun j hj => by rw [if_neg (by omega)])]))
      have HB4 := hid (show Below w.heap.size w w1 ∧ w.heap.size + 1 < w1.heap.size ∧ Blk w1 w.heap.size [.slice (some ⟨b, o, none⟩) n1 k1, .slice A2 n2 k2, .int .i64 q] from
        ⟨(HB.out.1.alloc HB.out.1.size _).grown hg1 (by have := HB.out.1.size; simp; omega) (by intro z hz; cases hz; omega), by have := hg1.size; simp at this; omega, (HB.out.2.2.alloc _).kept hg1 (by simp)⟩)
      have HN4 := hid (show ∀ j, j < k + 1 → Blk w1 (if j = k then wr.heap.size else nb j) [.pointer (some ⟨b, o + j * 6, none⟩), .pointer none] ∧ w.heap.size + 1 < (if j = k then wr.heap.size else nb j) by
        intro j hj
        by_cases e : j = k
        · subst e
          rw [if_pos rfl]
          exact ⟨(Blk.new wr _ _).kept hg1 (by simp; omega), hMne⟩
        · rw [if_neg e]
          obtain ⟨hb1, hb2⟩ := HN.out j (by omega)
          exact ⟨(hb1.alloc _).kept hg1 (by simp; omega), hb2⟩)
      have HI4 := hid (show ∀ i j, i < k + 1 → j < k + 1 → (if i = k then wr.heap.size else nb i) = (if j = k then wr.heap.size else nb j) → i = j by
        intro i j hi hj he
        by_cases e1 : i = k
        · by_cases e2 : j = k
          · omega
          · rw [if_pos e1, if_neg e2] at he
            have := (HN.out j (by omega)).1.1; omega
        · by_cases e2 : j = k
          · rw [if_neg e1, if_pos e2] at he
            have := (HN.out i (by omega)).1.1; omega
          · rw [if_neg e1, if_neg e2] at he
            exact HI.out i j (by omega) (by omega) he)
      clear hM3 hg1 c0 d0 d1 d2 hMne
      go_wp2_with fail
      go_roundw
      case rel => exact ⟨k + 1, _, _, _, by go_num, rfl, rfl, by omega, HM4.out, HN4.out, HI4.out, HB4.out⟩
      case measure => simp [intOf]; omega
    · obtain rfl : k = n1 := by omega
      have d0 := (HB.out.2.2.2 0 _ rfl).1
      have d1 := (HB.out.2.2.2 1 _ rfl).1
      have d2 := (HB.out.2.2.2 2 _ rfl).1
      have HM1 := hid HM.out
      clear d0 d1 d2
      go_wp2_with (at_range; refine wpList_rangeP _ HM1.out 71 58 Try.underlying71 rfl _ rfl rfl ?_)
      intro w1 cnt hR hg1 hs1
      have HR1 := hid hR
      have HB1 := hid (HB.out.1.grown hg1 HB.out.1.size (by intro z hz; cases hz))
      have HNd := hid (show Nodes w1 b o (lnames ls) nb (fun l => (gF (lnames ls) nb k l).isSome) from nodes_first (fun j hj => ((HN.out j (by rw [← HV.out.2.1]; exact hj)).1.kept hg1 (by simp))) (fun j hj => by rw [gF_hit HV.out.2.2.2.1 (by rw [HV.out.2.1]; exact Nat.le_refl _) (by rw [← HV.out.2.1]; exact hj)]; rfl))
      have HLT := hid (show ∀ j, j < k → nb j < wr.heap.size ∧ w.heap.size + 1 < nb j from fun j hj => ⟨(HN.out j hj).1.1, (HN.out j hj).2⟩)
      have hsz := HB.out.2.1
      clear hR hg1 hs1
      go_wp2_with fail
      go_loopw [6, 7] (fun nv mv wx => ∃ (cnt : Nat) (left : Name → Bool) (u6 u7 : Value), nv = u6 ∧ mv = u7 ∧ Hid (RangeP wx (w.heap.size + 1) wr.heap.size k (gF (lnames ls) nb k) left cnt) ∧ Hid (Nodes wx b o (lnames ls) nb left) ∧ Hid (Below w.heap.size w wx)) (fun _ _ wx => wx.rangeLeft (w.heap.size + 1) wr.heap.size)
      case atStart => exact ⟨cnt, _, _, _, rfl, rfl, HR1.out, HNd.out, HB1.out⟩
      case round =>
        obtain ⟨cnt, left, u6, u7, rfl, rfl, HR, HNx, HBx⟩ := hrel
        have HRx := hid HR.out
        go_wp2_with (at_next; refine wpList_nextP _ HRx.out rfl _ rfl rfl ?_ ?_)
        · intro hdone
          have HD := hid hdone
          clear hdone
          go_wp2_with fail
          go_ret
          refine ⟨_, nb, k, rfl, by rw [HV.out.2.1]; exact HR.out.map, fun j hj => ?_, HBx.out⟩
          have := HNx.out j hj
          rwa [HD.out] at this
        · intro x v w2 cnt2 hxs hlx hgx hR2 hlt2 hg2 hs2 hen
          obtain ⟨j, hj, hjx, rfl⟩ := gF_some hgx
          have HR2 := hid hR2
          have HB2 := hid (HBx.out.grown hg2 HBx.out.size (by intro z hz; cases hz; omega))
          have HN2 := hid (show ∀ i, i < (lnames ls).length → Blk w2 (nb i) [.pointer (some ⟨b, o + i * 6, none⟩), upV (lnames ls) nb i (left ((lnames ls).getD i []))] from
            fun i hi => (HNx.out i hi).kept hg2 (by have := (HLT.out i (by rw [← HV.out.2.1]; exact hi)).1; simp; omega))
          have HJ := hid hjx
          have HX := hid (And.intro hlx hgx)
          have hj' : j < (lnames ls).length := by rw [HV.out.2.1]; exact hj
          have hnk : nameOk x.data.toList = true := by rw [← hjx]; exact HV.out.2.2.2.2 _ (List.mem_of_getElem? (getD_at hj'))
          have HK := hid hnk
          clear hxs hlx hgx hR2 hg2 hs2 hjx hnk
          by_cases hx0 : x.data.toList = []
          · have e0 := empty_true hx0
            have H0 := hid hx0
            clear hx0
            go_wp2_with fail
            go_roundw
            case rel =>
              refine ⟨cnt2, _, _, _, rfl, rfl, HR2.out, fun i hi => ?_, HB2.out⟩
              have h1 := HN2.out i hi
              by_cases e : (lnames ls).getD i [] = []
              · have e2 : ∀ bb, upV (lnames ls) nb i bb = .pointer none := fun bb => by unfold upV; rw [decide_eq_true e, Bool.or_true]; rfl
                rw [e2] at h1 ⊢; exact h1
              · dsimp only
                rw [H0.out, decide_eq_false e, Bool.not_false, Bool.and_true]; exact h1
            case measure => rw [HR2.out.left_eq, HR.out.left_eq]; exact hlt2
          · have e0 := empty_false hx0
            obtain ⟨ap, hap, hap2⟩ := txt_mk (aboveL x.data.toList)
            have AB := hid (fun W => implAbove_c' x W (by have := name_size _ HK.out; rw [← Lib.size_eq] at this; unfold maxLen; omega))
            rw [hap] at AB
            have NE := hid (implNearest_c (w.heap.size + 1) k (lnames ls) nb ap w2 (by rw [HV.out.2.1]; exact HR2.out.map) HV.out.2.2.1 HV.out.2.2.2.1 (by rw [hap2]; exact (above_name HK.out).1))
            have HU := hid (show nearN (lnames ls) ap.data.toList = upN (lnames ls) j by rw [hap2, ← HJ.out]; rfl)
            have H0 := hid hx0
            have d1 := (HN2.out j hj').2 1 _ rfl
            have d1c := d1.1
            have d1f := d1.2
            have hnlt := HLT.out j hj
            clear hx0 hap hap2 d1
            go_wp2_with (first | (go_at_call 79; refine (AB.out _).mono ?_; rintro e w3 ⟨rfl, rfl⟩) | (go_at_call 71; refine (NE.out).mono ?_; rintro e w3 ⟨rfl, rfl⟩))
            go_roundw
            case rel =>
              refine ⟨cnt2, _, _, _, rfl, rfl, HR2.out.kept (grown_set _ _ _ _) (by simp; omega) (by simp; omega), fun i hi => ?_, HB2.out.setCell (by show _ ≤ nb j; omega) _⟩
              by_cases e : i = j
              · subst e
                have h1 := (HN2.out i hi).set 1 (.pointer (some ⟨nb (nearN (lnames ls) ap.data.toList), 0, none⟩))
                have e2 : upV (lnames ls) nb i (left ((lnames ls).getD i []) && !decide ((lnames ls).getD i [] = x.data.toList)) = .pointer (some ⟨nb (nearN (lnames ls) ap.data.toList), 0, none⟩) := by
                  unfold upV
                  rw [HJ.out, decide_eq_true (rfl : x.data.toList = x.data.toList), Bool.not_true, Bool.and_false, Bool.false_or, decide_eq_false H0.out, HU.out]; rfl
                dsimp only
                rw [e2]; exact h1
              · have h1 := (HN2.out i hi).apart ⟨nb j, 1, none⟩ (.pointer (some ⟨nb (nearN (lnames ls) ap.data.toList), 0, none⟩)) (fun e2 => e (HI.out i j (by rw [← HV.out.2.1]; exact hi) hj e2.symm))
                have e3 : ¬ (lnames ls).getD i [] = x.data.toList := fun e4 => e (nodup_at HV.out.2.2.2.1 hi hj' (e4.trans HJ.out.symm))
                dsimp only
                rw [decide_eq_false e3, Bool.not_false, Bool.and_true]; exact h1
            case measure =>
              have h1 := (HR2.out.kept (grown_set w2 (nb j) 1 (.pointer (some ⟨nb (nearN (lnames ls) ap.data.toList), 0, none⟩))) (by simp; omega) (by simp; omega)).left_eq
              rw [h1, HR.out.left_eq]; exact hlt2
end Go.Proofs.Ytlhelhfaogcibaa
