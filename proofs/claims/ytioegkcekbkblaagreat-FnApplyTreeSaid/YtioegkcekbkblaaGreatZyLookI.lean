/-
  N6, N7, N8, N9, N10, N11 laid together.
-/
import Derived.Test.YtioegkcekbkblaaGreatZyLawTrees
import Derived.Test.YtioegkcekbkblaaGreatZyTrees
import Derived.Test.YtioegkcekbkblaaGreatZyHelps
import Derived.Test.YtioegkcekbkblaaGreatZyBase
/-
  WALKS: the model's nearest, above, path, effective, and what hangs on them.
-/
namespace Go.Proofs.YtioegkcekbkblaaGreat
open Go.RowKit Nm
set_option linter.unusedSimpArgs false
set_option linter.unusedVariables false

theorem lnames_at {l : List LgrV} {k : Nat} {x : LgrV} (hx : l[k]? = some x) : (lnames l).getD k [] = x.l.nm := by simp [lnames, List.getD, hx]

end Go.Proofs.YtioegkcekbkblaaGreat

/-
  WALKS: the program's nodes: nearest, hang.
-/
namespace Go.Proofs.YtioegkcekbkblaaGreat
open Go.RowKit Nm
set_option linter.unusedSimpArgs false
set_option linter.unusedVariables false

/-- what the map of nodes holds of the first k names -/
def gF (ns : List Name) (nb : Nat → Nat) : Nat → Name → Option Value
  | 0, _ => none
  | k + 1, l => if l = ns.getD k [] then some (.pointer (some ⟨nb k, 0, none⟩)) else gF ns nb k l
theorem gF_congr {ns : List Name} {nb nb' : Nat → Nat} {k : Nat} (h : ∀ j, j < k → nb j = nb' j) (l : Name) : gF ns nb k l = gF ns nb' k l := by
  induction k with
  | zero => rfl
  | succ k ih => simp only [gF]; rw [ih (fun j hj => h j (by omega)), h k (by omega)]
theorem gF_some {ns : List Name} {nb : Nat → Nat} {k : Nat} {l : Name} {v : Value} (h : gF ns nb k l = some v) : ∃ j, j < k ∧ ns.getD j [] = l ∧ v = .pointer (some ⟨nb j, 0, none⟩) := by
  induction k with
  | zero => cases h
  | succ k ih =>
    simp only [gF] at h
    split at h
    · rename_i e
      exact ⟨k, by omega, e.symm, (Option.some.inj h).symm⟩
    · obtain ⟨j, h1, h2⟩ := ih h
      exact ⟨j, by omega, h2⟩
theorem gF_none {ns : List Name} {nb : Nat → Nat} {k : Nat} {l : Name} (h : gF ns nb k l = none) : ∀ j, j < k → ns.getD j [] ≠ l := by
  induction k with
  | zero => intro j hj; omega
  | succ k ih =>
    simp only [gF] at h
    split at h
    · cases h
    · rename_i e
      intro j hj
      by_cases ej : j = k
      · subst ej; exact fun e2 => e e2.symm
      · exact ih h j (by omega)
theorem at_getD {ns : List Name} {j : Nat} {x : Name} (h : ns[j]? = some x) : ns.getD j [] = x := by simp [List.getD, h]
theorem getD_at {ns : List Name} {j : Nat} (h : j < ns.length) : ns[j]? = some (ns.getD j []) := by simp [List.getD, h]
theorem nodup_at {ns : List Name} (hn : ns.Nodup) {i j : Nat} (hi : i < ns.length) (hj : j < ns.length) (e : ns.getD i [] = ns.getD j []) : i = j := by
  have g1 : ns.getD i [] = ns[i] := by simp [List.getD, hi]
  have g2 : ns.getD j [] = ns[j] := by simp [List.getD, hj]
  rw [g1, g2] at e
  exact (List.getElem_inj hn).1 e
theorem gF_hit {ns : List Name} {nb : Nat → Nat} (hn : ns.Nodup) {k j : Nat} (hk : k ≤ ns.length) (hj : j < k) : gF ns nb k (ns.getD j []) = some (.pointer (some ⟨nb j, 0, none⟩)) := by
  cases h : gF ns nb k (ns.getD j []) with
  | none => exact absurd rfl (gF_none h j hj)
  | some v =>
    obtain ⟨i, h1, h2, rfl⟩ := gF_some h
    rw [nodup_at hn (by omega) (by omega) h2]
theorem zeroNode (w : World) : (zeroValue 83).run Tryz.prog w = .ok (.pointer none) w := by kernel_rfl
/-- the number of words of a text in a slot -/
def deep : Value → Nat
  | .string y => (partsL y.data.toList).length
  | _ => 0

theorem implAbove_c' (s : ByteArray) (w : World) (hs : s.size ≤ maxLen) :
    Calls Tryz.prog 133 #[.string s] w fun e w' => e = .returned (txt (aboveL s.data.toList)) ∧ w = w' :=
  (implAbove_c s w hs).mono fun _ _ h => ⟨h.1, h.2.symm⟩

set_option maxHeartbeats 2000000 in
set_option maxRecDepth 100000 in
theorem implNearest_c (M m : Nat) (ns : List Name) (nb : Nat → Nat) (x : ByteArray) (w : World) (hM : MapP w M m (gF ns nb ns.length)) (h0 : ns[0]? = some []) (hnd : ns.Nodup) (hx : nameOk x.data.toList = true) :
    Calls Tryz.prog 104 #[.map (some M), .string x] w fun e w' => e = .returned (.pointer (some ⟨nb (nearN ns x.data.toList), 0, none⟩)) ∧ w = w' := by
  have HM := hid hM
  have HN := hid (And.intro h0 hnd)
  have HX := hid hx
  clear hM h0 hnd hx
  go_enter Tryz.func104, Tryz.ntmps104
  go_wp2_with fail
  go_loop [1] (fun v => ∃ y : ByteArray, v = .string y ∧ Hid (nameOk y.data.toList = true ∧ nearN ns y.data.toList = nearN ns x.data.toList)) (fun v => deep v)
  case atStart => exact ⟨x, rfl, HX.out, rfl⟩
  case round =>
    obtain ⟨y, rfl, HY⟩ := hrel
    have hys : y.size ≤ maxLen := by have := name_size _ HY.out.1; rw [← Lib.size_eq] at this; unfold maxLen; omega
    have hlook := HM.out.look Tryz.underlying136 (zeroNode w) y hys
    cases hg : gF ns nb ns.length y.data.toList with
    | none =>
      rw [hg] at hlook
      have hlook' : (Instr.lookup 136 (.map (some M)) (.string y) false).run Tryz.prog w = .ok (.pointer none) w := hlook
      have HG := hid (gF_none hg)
      have hne : y.data.toList ≠ [] := by
        intro e
        have hl := (List.getElem?_eq_some_iff.1 HN.out.1).1
        exact HG.out 0 hl ((at_getD HN.out.1).trans e.symm)
      have hmem : y.data.toList ∉ ns := by
        intro hm
        obtain ⟨j, hj, e⟩ := List.getElem_of_mem hm
        exact HG.out j hj (by simp [List.getD, hj, e])
      obtain ⟨ap, hap, hap2⟩ := txt_mk (aboveL y.data.toList)
      have AB := hid (fun W => implAbove_c' y W hys)
      rw [hap] at AB
      have H2 := hid (show nameOk ap.data.toList = true ∧ nearN ns ap.data.toList = nearN ns x.data.toList by
        rw [hap2]; exact ⟨(above_name HY.out.1).1, (near_miss HY.out.1 hmem).trans HY.out.2⟩)
      have H3 := hid (show (partsL ap.data.toList).length < (partsL y.data.toList).length by rw [hap2]; exact above_shorter HY.out.1 hne)
      clear hg hlook hap hap2 hne hmem
      go_wp2_with (go_at_call 133; refine (AB.out _).mono ?_; rintro e w1 ⟨rfl, rfl⟩)
      go_round
      case rel => exact ⟨ap, rfl, H2.out⟩
      case measure => exact H3.out
    | some v =>
      obtain ⟨j, hj, e, rfl⟩ := gF_some hg
      rw [hg] at hlook
      have hlook' : (Instr.lookup 136 (.map (some M)) (.string y) false).run Tryz.prog w = .ok (.pointer (some ⟨nb j, 0, none⟩)) w := hlook
      have HE := hid (show nearN ns x.data.toList = j by rw [← HY.out.2]; exact near_hit HN.out.1 HN.out.2 _ _ (by rw [getD_at hj, e]))
      clear hg hlook e
      go_wp2_with fail
      go_ret
      exact ⟨by rw [HE.out]; rfl, rfl⟩

/-- where the node of logger j hangs -/
def upV (ns : List Name) (nb : Nat → Nat) (j : Nat) (bare : Bool) : Value := if bare || decide (ns.getD j [] = []) then .pointer none else .pointer (some ⟨nb (upN ns j), 0, none⟩)
/-- the nodes of loggers that lie at block b -/
def Nodes (w : World) (b o : Nat) (ns : List Name) (nb : Nat → Nat) (left : Name → Bool) : Prop :=
  ∀ j, j < ns.length → Blk w (nb j) [.pointer (some ⟨b, o + j * 6, none⟩), upV ns nb j (left (ns.getD j []))]
theorem Nodes.below {w w' : World} {B b o : Nat} {ns : List Name} {nb : Nat → Nat} {left : Name → Bool} (h : Nodes w b o ns nb left) (hb : Below B w w') (hB : ∀ j, j < ns.length → nb j < B) : Nodes w' b o ns nb left :=
  fun j hj => (h j hj).below hb (hB j hj)
theorem Nodes.to {w w' : World} {b o : Nat} {ns : List Name} {nb : Nat → Nat} {left : Name → Bool} (h : Nodes w b o ns nb left) (hb : Below w.heap.size w w') : Nodes w' b o ns nb left :=
  fun j hj => (h j hj).to hb
def HangPost (w : World) (b o : Nat) (ns : List Name) (e : Ending) (w' : World) : Prop :=
  ∃ M nb m, e = .returned (.map (some M)) ∧ MapP w' M m (gF ns nb ns.length) ∧ Nodes w' b o ns nb (fun _ => false) ∧ Below w.heap.size w w'
theorem nodes_first {w : World} {b o : Nat} {ns : List Name} {nb : Nat → Nat} (h : ∀ j, j < ns.length → Blk w (nb j) [.pointer (some ⟨b, o + j * 6, none⟩), .pointer none]) {left : Name → Bool} (hl : ∀ j, j < ns.length → left (ns.getD j []) = true) : Nodes w b o ns nb left := by
  intro j hj
  have := h j hj
  unfold upV
  rw [hl j hj]
  exact this

set_option maxHeartbeats 8000000 in
set_option maxRecDepth 100000 in
theorem implHang_c (A1 A2 : Option Addr) (n1 k1 n2 k2 B b o : Nat) (q : Int) (ls : List LgrV) (w : World) (hl : Ls w B n1 (.slice (some ⟨b, o, none⟩) n1 k1) ls) (hB : B ≤ w.heap.size) (hn : n1 ≤ 1048576)
    (h0 : (lnames ls)[0]? = some []) (hnd : (lnames ls).Nodup) (hok : ∀ z ∈ lnames ls, nameOk z = true) :
    Calls Tryz.prog 105 #[.agg #[.slice (some ⟨b, o, none⟩) n1 k1, .slice A2 n2 k2, .int .i64 q]] w (HangPost w b o (lnames ls)) := by
  have hll : (lnames ls).length = n1 := by unfold lnames; rw [List.length_map]; exact hl.count
  have HB0 := hid (show Below w.heap.size w (w.alloc (.cells #[.slice (some ⟨b, o, none⟩) n1 k1, .slice A2 n2 k2, .int .i64 q] 26)) from (Below.refl _ _).alloc (Nat.le_refl _) _)
  have HV := hid (And.intro hl (And.intro hll (And.intro h0 (And.intro hnd hok))))
  have hkc := hl.1.cap
  have hk1 := hkc.2
  have hk0 := hkc.1
  unfold maxLen at hk1
  have hmm := @run_makeMap Tryz.prog
  clear hl hll h0 hnd hok hkc
  go_enter Tryz.func105, Tryz.ntmps105
  go_wp2_with fail
  clear hmm
  go_loopw [4, 5, 12] (fun iv lv cv wr => ∃ (k : Nat) (nb : Nat → Nat) (u4 u5 : Value), cv = .int .i64 k ∧ iv = u4 ∧ lv = u5 ∧ k ≤ n1 ∧ Hid (MapP wr (w.heap.size + 1) k (gF (lnames ls) nb k)) ∧ Hid (∀ j, j < k → Blk wr (nb j) [.pointer (some ⟨b, o + j * 6, none⟩), .pointer none] ∧ w.heap.size + 1 < nb j) ∧
    Hid (∀ i j, i < k → j < k → nb i = nb j → i = j) ∧ Hid (Below w.heap.size w wr ∧ w.heap.size + 1 < wr.heap.size ∧ Blk wr w.heap.size [.slice (some ⟨b, o, none⟩) n1 k1, .slice A2 n2 k2, .int .i64 q])) (fun _ _ cv _ => n1 - (intOf cv).toNat)
  case atStart =>
    refine ⟨0, fun _ => 0, _, _, rfl, rfl, rfl, by omega, ?_, fun j hj => by omega, fun i j hi => by omega, ?_, ?_, ?_⟩
    · have := MapP.made (w.alloc (.cells #[.slice (some ⟨b, o, none⟩) n1 k1, .slice A2 n2 k2, .int .i64 q] 26))
      show MapP _ _ _ _
      simpa [gF] using this
    · exact HB0.out.alloc (by simp) _
    · simp
    · exact (Blk.new _ _ _).alloc _
  case round =>
    obtain ⟨k, nb, u4, u5, rfl, rfl, rfl, hk, HM, HN, HI, HB⟩ := hrel
    by_cases hlt : k < n1
    · obtain ⟨b', o', y, p, e', hbB, hy, hp, hps, _, _, g0, _⟩ := HV.out.1.at_ hlt
      obtain ⟨rfl, rfl⟩ : b = b' ∧ o = o' := by simpa using e'
      have c0 : wr.cell? ⟨b, o + k * 6, none⟩ = some (.string p) := (HB.out.1.cell (p := ⟨b, o + k * 6, none⟩) (by show b < _; omega)).trans g0
      have d0 := (HB.out.2.2.2 0 _ rfl).1
      have d1 := (HB.out.2.2.2 1 _ rfl).1
      have d2 := (HB.out.2.2.2 2 _ rfl).1
      have HP := hid (show (lnames ls).getD k [] = p.data.toList by rw [lnames_at hy, hp])
      have hpl : p.size ≤ maxLen := by unfold maxTxt at hps; unfold maxLen; omega
      have HM2 := hid (HM.out.alloc' (.cells #[.pointer (some ⟨b, o + k * 6, none⟩), .pointer none] 87))
      clear hy hp hps g0 e'
      go_wp2_with (at_mapUpdate; refine wpList_mapP _ HM2.out 136 83 Tryz.underlying136 rfl _ _ _ rfl rfl (by unfold maxLen; omega) p hpl _ rfl rfl ?_)
      intro w1 hM3 hg1
      have hMne : w.heap.size + 1 < wr.heap.size := HB.out.2.1
      have HM4 := hid (hM3.congr (g' := gF (lnames ls) (fun j => if j = k then wr.heap.size else nb j) (k + 1)) (by
        intro l
        simp only [gF, HP.out, if_true]
        rw [gF_congr (nb' := fun j => if j = k then wr.heap.size else nb j) (fun j hj => by rw [if_neg (by omega)])]))
      have HB4 := hid (show Below w.heap.size w w1 ∧ w.heap.size + 1 < w1.heap.size ∧ Blk w1 w.heap.size [.slice (some ⟨b, o, none⟩) n1 k1, .slice A2 n2 k2, .int .i64 q] from
        ⟨(HB.out.1.alloc HB.out.1.size _).grown hg1 (by have := HB.out.1.size; simp; omega) (by intro z hz; cases hz; omega), by have := hg1.size; simp at this; omega, (HB.out.2.2.alloc _).kept hg1 (by simp)⟩)
      have HN4 := hid (show ∀ j, j < k + 1 → Blk w1 (if j = k then wr.heap.size else nb j) [.pointer (some ⟨b, o + j * 6, none⟩), .pointer none] ∧ w.heap.size + 1 < (if j = k then wr.heap.size else nb j) by
        intro j hj
        by_cases e : j = k
        · subst e
          rw [if_pos rfl]
          exact ⟨(Blk.new wr _ _).kept hg1 (by simp; omega), hMne⟩
        · rw [if_neg e]
          obtain ⟨hb1, hb2⟩ := HN.out j (by omega)
          exact ⟨(hb1.alloc _).kept hg1 (by simp; omega), hb2⟩)
      have HI4 := hid (show ∀ i j, i < k + 1 → j < k + 1 → (if i = k then wr.heap.size else nb i) = (if j = k then wr.heap.size else nb j) → i = j by
        intro i j hi hj he
        by_cases e1 : i = k
        · by_cases e2 : j = k
          · omega
          · rw [if_pos e1, if_neg e2] at he
            have := (HN.out j (by omega)).1.1; omega
        · by_cases e2 : j = k
          · rw [if_neg e1, if_pos e2] at he
            have := (HN.out i (by omega)).1.1; omega
          · rw [if_neg e1, if_neg e2] at he
            exact HI.out i j (by omega) (by omega) he)
      clear hM3 hg1 c0 d0 d1 d2 hMne
      go_wp2_with fail
      go_roundw
      case rel => exact ⟨k + 1, _, _, _, by go_num, rfl, rfl, by omega, HM4.out, HN4.out, HI4.out, HB4.out⟩
      case measure => simp [intOf]; omega
    · obtain rfl : k = n1 := by omega
      have d0 := (HB.out.2.2.2 0 _ rfl).1
      have d1 := (HB.out.2.2.2 1 _ rfl).1
      have d2 := (HB.out.2.2.2 2 _ rfl).1
      have HM1 := hid HM.out
      clear d0 d1 d2
      go_wp2_with (at_range; refine wpList_rangeP _ HM1.out 136 83 Tryz.underlying136 rfl _ rfl rfl ?_)
      intro w1 cnt hR hg1 hs1
      have HR1 := hid hR
      have HB1 := hid (HB.out.1.grown hg1 HB.out.1.size (by intro z hz; cases hz))
      have HNd := hid (show Nodes w1 b o (lnames ls) nb (fun l => (gF (lnames ls) nb k l).isSome) from nodes_first (fun j hj => ((HN.out j (by rw [← HV.out.2.1]; exact hj)).1.kept hg1 (by simp))) (fun j hj => by rw [gF_hit HV.out.2.2.2.1 (by rw [HV.out.2.1]; exact Nat.le_refl _) (by rw [← HV.out.2.1]; exact hj)]; rfl))
      have HLT := hid (show ∀ j, j < k → nb j < wr.heap.size ∧ w.heap.size + 1 < nb j from fun j hj => ⟨(HN.out j hj).1.1, (HN.out j hj).2⟩)
      have hsz := HB.out.2.1
      clear hR hg1 hs1
      go_wp2_with fail
      go_loopw [6, 7] (fun nv mv wx => ∃ (cnt : Nat) (left : Name → Bool) (u6 u7 : Value), nv = u6 ∧ mv = u7 ∧ Hid (RangeP wx (w.heap.size + 1) wr.heap.size k (gF (lnames ls) nb k) left cnt) ∧ Hid (Nodes wx b o (lnames ls) nb left) ∧ Hid (Below w.heap.size w wx)) (fun _ _ wx => wx.rangeLeft (w.heap.size + 1) wr.heap.size)
      case atStart => exact ⟨cnt, _, _, _, rfl, rfl, HR1.out, HNd.out, HB1.out⟩
      case round =>
        obtain ⟨cnt, left, u6, u7, rfl, rfl, HR, HNx, HBx⟩ := hrel
        have HRx := hid HR.out
        go_wp2_with (at_next; refine wpList_nextP _ HRx.out rfl _ rfl rfl ?_ ?_)
        · intro hdone
          have HD := hid hdone
          clear hdone
          go_wp2_with fail
          go_ret
          refine ⟨_, nb, k, rfl, by rw [HV.out.2.1]; exact HR.out.map, fun j hj => ?_, HBx.out⟩
          have := HNx.out j hj
          rwa [HD.out] at this
        · intro x v w2 cnt2 hxs hlx hgx hR2 hlt2 hg2 hs2 hen
          obtain ⟨j, hj, hjx, rfl⟩ := gF_some hgx
          have HR2 := hid hR2
          have HB2 := hid (HBx.out.grown hg2 HBx.out.size (by intro z hz; cases hz; omega))
          have HN2 := hid (show ∀ i, i < (lnames ls).length → Blk w2 (nb i) [.pointer (some ⟨b, o + i * 6, none⟩), upV (lnames ls) nb i (left ((lnames ls).getD i []))] from
            fun i hi => (HNx.out i hi).kept hg2 (by have := (HLT.out i (by rw [← HV.out.2.1]; exact hi)).1; simp; omega))
          have HJ := hid hjx
          have HX := hid (And.intro hlx hgx)
          have hj' : j < (lnames ls).length := by rw [HV.out.2.1]; exact hj
          have hnk : nameOk x.data.toList = true := by rw [← hjx]; exact HV.out.2.2.2.2 _ (List.mem_of_getElem? (getD_at hj'))
          have HK := hid hnk
          clear hxs hlx hgx hR2 hg2 hs2 hjx hnk
          by_cases hx0 : x.data.toList = []
          · have e0 := empty_true hx0
            have H0 := hid hx0
            clear hx0
            go_wp2_with fail
            go_roundw
            case rel =>
              refine ⟨cnt2, _, _, _, rfl, rfl, HR2.out, fun i hi => ?_, HB2.out⟩
              have h1 := HN2.out i hi
              by_cases e : (lnames ls).getD i [] = []
              · have e2 : ∀ bb, upV (lnames ls) nb i bb = .pointer none := fun bb => by unfold upV; rw [decide_eq_true e, Bool.or_true]; rfl
                rw [e2] at h1 ⊢; exact h1
              · dsimp only
                rw [H0.out, decide_eq_false e, Bool.not_false, Bool.and_true]; exact h1
            case measure => rw [HR2.out.left_eq, HR.out.left_eq]; exact hlt2
          · have e0 := empty_false hx0
            obtain ⟨ap, hap, hap2⟩ := txt_mk (aboveL x.data.toList)
            have AB := hid (fun W => implAbove_c' x W (by have := name_size _ HK.out; rw [← Lib.size_eq] at this; unfold maxLen; omega))
            rw [hap] at AB
            have NE := hid (implNearest_c (w.heap.size + 1) k (lnames ls) nb ap w2 (by rw [HV.out.2.1]; exact HR2.out.map) HV.out.2.2.1 HV.out.2.2.2.1 (by rw [hap2]; exact (above_name HK.out).1))
            have HU := hid (show nearN (lnames ls) ap.data.toList = upN (lnames ls) j by rw [hap2, ← HJ.out]; rfl)
            have H0 := hid hx0
            have d1 := (HN2.out j hj').2 1 _ rfl
            have d1c := d1.1
            have d1f := d1.2
            have hnlt := HLT.out j hj
            clear hx0 hap hap2 d1
            go_wp2_with (first | (go_at_call 133; refine (AB.out _).mono ?_; rintro e w3 ⟨rfl, rfl⟩) | (go_at_call 104; refine (NE.out).mono ?_; rintro e w3 ⟨rfl, rfl⟩))
            go_roundw
            case rel =>
              refine ⟨cnt2, _, _, _, rfl, rfl, HR2.out.kept (grown_set _ _ _ _) (by simp; omega) (by simp; omega), fun i hi => ?_, HB2.out.setCell (by show _ ≤ nb j; omega) _⟩
              by_cases e : i = j
              · subst e
                have h1 := (HN2.out i hi).set 1 (.pointer (some ⟨nb (nearN (lnames ls) ap.data.toList), 0, none⟩))
                have e2 : upV (lnames ls) nb i (left ((lnames ls).getD i []) && !decide ((lnames ls).getD i [] = x.data.toList)) = .pointer (some ⟨nb (nearN (lnames ls) ap.data.toList), 0, none⟩) := by
                  unfold upV
                  rw [HJ.out, decide_eq_true (rfl : x.data.toList = x.data.toList), Bool.not_true, Bool.and_false, Bool.false_or, decide_eq_false H0.out, HU.out]; rfl
                dsimp only
                rw [e2]; exact h1
              · have h1 := (HN2.out i hi).apart ⟨nb j, 1, none⟩ (.pointer (some ⟨nb (nearN (lnames ls) ap.data.toList), 0, none⟩)) (fun e2 => e (HI.out i j (by rw [← HV.out.2.1]; exact hi) hj e2.symm))
                have e3 : ¬ (lnames ls).getD i [] = x.data.toList := fun e4 => e (nodup_at HV.out.2.2.2.1 hi hj' (e4.trans HJ.out.symm))
                dsimp only
                rw [decide_eq_false e3, Bool.not_false, Bool.and_true]; exact h1
            case measure =>
              have h1 := (HR2.out.kept (grown_set w2 (nb j) 1 (.pointer (some ⟨nb (nearN (lnames ls) ap.data.toList), 0, none⟩))) (by simp; omega) (by simp; omega)).left_eq
              rw [h1, HR.out.left_eq]; exact hlt2
end Go.Proofs.YtioegkcekbkblaaGreat

/-
  WALKS: the program's looks at a tree: nearestNode and what hangs on it.
-/
namespace Go.Proofs.YtioegkcekbkblaaGreat
open Go.RowKit Nm
set_option linter.unusedSimpArgs false
set_option linter.unusedVariables false

theorem TreeIn.opened {w : World} {B : Nat} {v : Value} {L : List Lgr} {H : List Hnd} {q : Int} (h : TreeIn w B v L H q) (hok : treeOk L H q = true) :
    ∃ b o n1 k1 A2 n2 k2 ls, v = .agg #[.slice (some ⟨b, o, none⟩) n1 k1, .slice A2 n2 k2, .int .i64 q] ∧ Ls w B n1 (.slice (some ⟨b, o, none⟩) n1 k1) ls ∧ lsOf ls = L ∧ lnames ls = nsOf L ∧ n1 = L.length ∧ n1 ≤ 8 ∧ 1 ≤ n1 ∧ b < B := by
  obtain ⟨A1, n1, k1, A2, n2, k2, rfl⟩ := h.form
  obtain ⟨ls, hl, hL⟩ := h.loggers
  obtain ⟨_, _, _, h8, h1, _⟩ := tree_names hok
  have hn : n1 = L.length := by rw [← hL, ← hl.count]; simp [lsOf]
  obtain ⟨b, o, x, s, rfl, hb, _⟩ := hl.at_ (k := 0) (by omega)
  exact ⟨b, o, n1, k1, A2, n2, k2, ls, rfl, hl, hL, by rw [← hL, ← namesOf_ls]; rfl, hn, by omega, by omega, hb⟩
def NodePost (w : World) (b o : Nat) (ns : List Name) (k : Nat) (e : Ending) (w' : World) : Prop :=
  ∃ nb, e = .returned (.pointer (some ⟨nb k, 0, none⟩)) ∧ Nodes w' b o ns nb (fun _ => false) ∧ Below w.heap.size w w'

set_option maxHeartbeats 2000000 in
set_option maxRecDepth 100000 in
theorem implNode_no {w : World} {B : Nat} {v : Value} {L : List Lgr} {H : List Hnd} {q : Int} (x : ByteArray) (h : TreeIn w B v L H q) (hB : B ≤ w.heap.size) (hx : x.size ≤ maxLen) (hno : (treeOk L H q && nameOk x.data.toList) = false) :
    Calls Tryz.prog 51 #[v, .string x] w (fun e w' => e = .returned (.pointer none) ∧ Below w.heap.size w w') := by
  have C := hid (fun (W : World) (hW : Below w.heap.size w W) => implValidTreeX_c (h.below hW hB) (Nat.le_trans hB hW.size))
  have V := hid (fun (W : World) => implValidName_c x W hx)
  obtain ⟨A1, n1, k1, A2, n2, k2, rfl⟩ := h.form
  clear h
  cases hz : treeOk L H q with
  | false =>
    rw [hz] at C
    clear hno hz
    go_enter Tryz.func51, Tryz.ntmps51
    go_wp2_with fail
    refine (C.out _ ?_).mono ?_
    case refine_1 => go_grown
    rintro e w1 ⟨rfl, hb1⟩
    have HB1 := hid (Below.trans (by go_grown) (hb1.mono (by simp; try omega)) : Below w.heap.size w w1)
    clear hb1
    go_wp2_with fail
    go_ret
    exact ⟨rfl, HB1.out⟩
  | true =>
    rw [hz] at C hno
    rw [Bool.true_and] at hno
    rw [hno] at V
    clear hno hz
    go_enter Tryz.func51, Tryz.ntmps51
    go_wp2_with fail
    refine (C.out _ ?_).mono ?_
    case refine_1 => go_grown
    rintro e w1 ⟨rfl, hb1⟩
    have HB1 := hid (Below.trans (by go_grown) (hb1.mono (by simp; try omega)) : Below w.heap.size w w1)
    clear hb1
    go_wp2_with fail
    refine (V.out _).mono ?_
    rintro e w2 ⟨rfl, hb2⟩
    have HB2 := hid (HB1.out.trans (hb2.mono HB1.out.size))
    clear hb2
    go_wp2_with fail
    go_ret
    exact ⟨rfl, HB2.out⟩

set_option maxHeartbeats 2000000 in
set_option maxRecDepth 100000 in
theorem implNode_yes {w : World} {B b o n1 k1 n2 k2 : Nat} {A2 : Option Addr} {L : List Lgr} {H : List Hnd} {q : Int} {ls : List LgrV} (x : ByteArray) (h : TreeIn w B (.agg #[.slice (some ⟨b, o, none⟩) n1 k1, .slice A2 n2 k2, .int .i64 q]) L H q)
    (hl : Ls w B n1 (.slice (some ⟨b, o, none⟩) n1 k1) ls) (hn : n1 ≤ 8) (hL : lnames ls = nsOf L) (hB : B ≤ w.heap.size) (hx : nameOk x.data.toList = true) (hok : treeOk L H q = true) :
    Calls Tryz.prog 51 #[.agg #[.slice (some ⟨b, o, none⟩) n1 k1, .slice A2 n2 k2, .int .i64 q], .string x] w (NodePost w b o (nsOf L) (nearN (nsOf L) x.data.toList)) := by
  have hxs : x.size ≤ maxLen := by have := name_size _ hx; rw [← Lib.size_eq] at this; unfold maxLen; omega
  obtain ⟨h0, hnd, hnm, _⟩ := tree_ns hok
  have C := hid (fun (W : World) (hW : Below w.heap.size w W) => implValidTreeX_c (h.below hW hB) (Nat.le_trans hB hW.size))
  have V := hid (fun (W : World) => implValidName_c x W hxs)
  have G := hid (fun (W : World) (hW : Below w.heap.size w W) => implHang_c none A2 n1 k1 n2 k2 B b o q ls W (hl.below hW hB) (Nat.le_trans hB hW.size) (by omega) (by rw [hL]; exact h0) (by rw [hL]; exact hnd) (by rw [hL]; exact hnm))
  have N := hid (fun (M m : Nat) (nb : Nat → Nat) (W : World) (hM : MapP W M m (gF (nsOf L) nb (nsOf L).length)) => implNearest_c M m (nsOf L) nb x W hM h0 hnd hx)
  rw [hL] at G
  rw [hx] at V
  rw [hok] at C
  clear h hl h0 hnd hnm hx hok hL
  go_enter Tryz.func51, Tryz.ntmps51
  go_wp2_with fail
  refine (C.out _ ?_).mono ?_
  case refine_1 => go_grown
  rintro e w1 ⟨rfl, hb1⟩
  have K1 := (Blk.new _ _ _).to hb1
  simp only [World.size_alloc] at K1
  have HK1 := hid K1
  have d0 := (HK1.out.2 0 _ rfl).1
  have d1 := (HK1.out.2 1 _ rfl).1
  have d2 := (HK1.out.2 2 _ rfl).1
  have HB1 := hid (Below.trans (by go_grown) (hb1.mono (by simp; try omega)) : Below w.heap.size w w1)
  clear hb1 K1
  go_wp2_with fail
  refine (V.out _).mono ?_
  rintro e w2 ⟨rfl, hb2⟩
  have HB2 := hid (HB1.out.trans (hb2.mono HB1.out.size))
  have HK2 := hid (HK1.out.to hb2)
  clear hb2 d0 d1 d2
  have d0 := (HK2.out.2 0 _ rfl).1
  have d1 := (HK2.out.2 1 _ rfl).1
  have d2 := (HK2.out.2 2 _ rfl).1
  go_wp2_with fail
  refine (G.out _ HB2.out).mono ?_
  rintro e w3 ⟨M, nb, m, rfl, hM, hN, hb3⟩
  have HB3 := hid (HB2.out.trans (hb3.mono HB2.out.size))
  have HN := hid hN
  have NE := hid (N.out M m nb w3 hM)
  clear hb3 d0 d1 d2 hN hM
  go_wp2_with fail
  refine (NE.out).mono ?_
  rintro e w4 ⟨rfl, rfl⟩
  go_wp2_with fail
  go_ret
  exact ⟨nb, rfl, HN.out, HB3.out⟩

set_option maxHeartbeats 2000000 in
set_option maxRecDepth 100000 in
theorem implNearestTo_c {w : World} {B : Nat} {v : Value} {L : List Lgr} {H : List Hnd} {q : Int} (x : ByteArray) (h : TreeIn w B v L H q) (hB : B ≤ w.heap.size) (hx : x.size ≤ maxLen) :
    Calls Tryz.prog 82 #[v, .string x] w (fun e w' => e = .returned (txt (nearestT L H q x.data.toList)) ∧ Below w.heap.size w w') := by
  cases hz : (treeOk L H q && nameOk x.data.toList) with
  | false =>
    have C := hid (fun (W : World) (hW : Below w.heap.size w W) => implNode_no x (h.below hW hB) (Nat.le_trans hB hW.size) hx hz)
    have HE := hid (show nearestT L H q x.data.toList = [] by unfold nearestT; rw [hz]; rfl)
    obtain ⟨A1, n1, k1, A2, n2, k2, rfl⟩ := h.form
    clear h hz
    go_enter Tryz.func82, Tryz.ntmps82
    go_wp2_with fail
    refine (C.out _ ?_).mono ?_
    case refine_1 => go_grown
    rintro e w1 ⟨rfl, hb1⟩
    have HB1 := hid (Below.trans (by go_grown) (hb1.mono (by simp; try omega)) : Below w.heap.size w w1)
    clear hb1
    go_wp2_with fail
    go_ret
    exact ⟨by rw [HE.out]; rfl, HB1.out⟩
  | true =>
    have hz' := hz
    simp only [Bool.and_eq_true] at hz'
    obtain ⟨b, o, n1, k1, A2, n2, k2, ls, rfl, hl, hL, hN, hn, hn8, hn1, hbB⟩ := h.opened hz'.1
    have C := hid (fun (W : World) (hW : Below w.heap.size w W) => implNode_yes x (h.below hW hB) (hl.below hW hB) hn8 hN (Nat.le_trans hB hW.size) hz'.2 hz'.1)
    have hlt := near_lt (tree_ns hz'.1).1 x.data.toList
    have HE := hid (show nearestT L H q x.data.toList = (nsOf L).getD (nearN (nsOf L) x.data.toList) [] by unfold nearestT; rw [hz]; rfl)
    have HV := hid (And.intro hl (And.intro hN hbB))
    have hlen : (nsOf L).length = n1 := by unfold nsOf; rw [List.length_map, hn]
    have hlt' : nearN (nsOf L) x.data.toList < n1 := by rw [← hlen]; exact hlt
    have HLn := hid hlen
    clear h hz hz' hl hN hlt hn hlen
    generalize hk : nearN (nsOf L) x.data.toList = k at *
    clear hk
    go_enter Tryz.func82, Tryz.ntmps82
    go_wp2_with fail
    refine (C.out _ ?_).mono ?_
    case refine_1 => go_grown
    rintro e w1 ⟨nb, rfl, hNd, hb1⟩
    have HB1 := hid (Below.trans (by go_grown) (hb1.mono (by simp; try omega)) : Below w.heap.size w w1)
    obtain ⟨b', o', y, p, e', hbB', hy, hp, hps, _, _, g0, _⟩ := (HV.out.1.below HB1.out hB).at_ hlt'
    obtain ⟨rfl, rfl⟩ : b = b' ∧ o = o' := by simpa using e'
    have c0 := (hNd k (by rw [HLn.out]; exact hlt')).2 0 _ rfl
    have c0' := c0.1
    have HP := hid (show (nsOf L).getD k [] = p.data.toList by rw [← HV.out.2.1, lnames_at hy, hp])
    clear hb1 hNd hy hp hps e' c0
    go_wp2_with fail
    go_ret
    exact ⟨by rw [HE.out, HP.out, txt_data]; rfl, HB1.out⟩
end Go.Proofs.YtioegkcekbkblaaGreat

/-
  WALKS: the program's looks at a tree: PathOf, ParentOf, ChildrenOf, BranchOf.
-/
namespace Go.Proofs.YtioegkcekbkblaaGreat
open Go.RowKit Nm
set_option linter.unusedSimpArgs false
set_option linter.unusedVariables false

def hsAt (L : List Lgr) (k : Nat) : List Name := (L.map (·.hs)).getD k []
def fsAt (L : List Lgr) (k : Nat) : List Flt := (L.map (·.fs)).getD k []
def stopAt (L : List Lgr) (k : Nat) : Bool := (L.map (·.stop)).getD k false
/-- logger k of a valid tree: its cells -/
theorem logger_at {w : World} {B b o n1 k1 : Nat} {ls : List LgrV} {L : List Lgr} (hl : Ls w B n1 (.slice (some ⟨b, o, none⟩) n1 k1) ls) (hL : lsOf ls = L) {k : Nat} (hk : k < n1) :
    ∃ (p : ByteArray) (A3 : Option Addr) (hn k3 : Nat) (A4 : Option Addr) (fn k4 : Nat), p.data.toList = (nsOf L).getD k [] ∧ p.size ≤ maxTxt ∧ Txts w B hn (.slice A3 hn k3) (hsAt L k) ∧ Fs w B fn (.slice A4 fn k4) (fsAt L k) ∧
      w.cell? ⟨b, o + k * 6, none⟩ = some (.string p) ∧ w.cell? ⟨b, o + k * 6 + 1, none⟩ = some (.int .i64 (lvAt L k)) ∧ w.cell? ⟨b, o + k * 6 + 2, none⟩ = some (.slice A3 hn k3) ∧ w.cell? ⟨b, o + k * 6 + 3, none⟩ = some (.slice A4 fn k4) ∧
      w.cell? ⟨b, o + k * 6 + 4, none⟩ = some (.bool (stopAt L k)) ∧ w.cell? ⟨b, o + k * 6 + 5, none⟩ = some (.bool (offAt L k)) := by
  obtain ⟨b', o', y, p, e', hbB, hy, hp, hps, ht, hf, c0, c1, c2, c3, c4, c5⟩ := hl.at_ hk
  obtain ⟨rfl, rfl⟩ : b = b' ∧ o = o' := by simpa using e'
  subst hL
  have e1 : (lsOf ls)[k]? = some y.l := by simp [lsOf, hy]
  have g : ∀ {α : Type} (f : Lgr → α) (d : α), ((lsOf ls).map f).getD k d = f y.l := fun f d => by simp [List.getD, e1]
  obtain ⟨A3, k3, e3, _, _⟩ := ht.1.form
  obtain ⟨A4, k4, e4, _, _⟩ := hf.1.form
  rw [e3] at ht c2
  rw [e4] at hf c3
  refine ⟨p, A3, y.hn, k3, A4, y.fn, k4, hp.trans (g (·.nm) []).symm, hps, ?_, ?_, c0, ?_, c2, c3, ?_, ?_⟩
  · rw [hsAt, g (·.hs) []]; exact ht
  · rw [fsAt, g (·.fs) []]; exact hf
  · rw [lvAt, g (·.lv) 0]; exact c1
  · rw [stopAt, g (·.stop) false]; exact c4
  · rw [offAt, g (·.off) false]; exact c5
/-- node k: its two cells -/
theorem node_at {w : World} {b o : Nat} {ns : List Name} {nb : Nat → Nat} (h : Nodes w b o ns nb (fun _ => false)) {k : Nat} (hk : k < ns.length) :
    w.cell? ⟨nb k, 0, none⟩ = some (.pointer (some ⟨b, o + k * 6, none⟩)) ∧ (ns.getD k [] = [] → w.cell? ⟨nb k, 1, none⟩ = some (.pointer none)) ∧ (ns.getD k [] ≠ [] → w.cell? ⟨nb k, 1, none⟩ = some (.pointer (some ⟨nb (upN ns k), 0, none⟩))) ∧ nb k < w.heap.size := by
  have h0 := h k hk
  refine ⟨(h0.2 0 _ rfl).1, fun e => ?_, fun e => ?_, h0.1⟩
  · have := (h0.2 1 _ rfl).1
    unfold upV at this
    rw [decide_eq_true e] at this
    exact this
  · have := (h0.2 1 _ rfl).1
    unfold upV at this
    rw [decide_eq_false e] at this
    exact this
def nodePtr (nb : Nat → Nat) (ov : Option Nat) : Value := .pointer (ov.map fun k => ⟨nb k, 0, none⟩)

end Go.Proofs.YtioegkcekbkblaaGreat

/-
  WALKS: the program's ParentOf, ChildrenOf, BranchOf.
-/
namespace Go.Proofs.YtioegkcekbkblaaGreat
open Go.RowKit Nm
set_option linter.unusedSimpArgs false
set_option linter.unusedVariables false

end Go.Proofs.YtioegkcekbkblaaGreat

/-
  WALKS: the program's ChildrenOf, level, EffectiveLevel, IsEnabled.
-/
namespace Go.Proofs.YtioegkcekbkblaaGreat
open Go.RowKit Nm
set_option linter.unusedSimpArgs false
set_option linter.unusedVariables false

theorem levelF_stop {ns : List Name} {lv : Nat → Int} {f k : Nat} (h : lv k ≠ 0 ∨ ns.getD k [] = []) : levelF ns lv f k = lv k := by
  cases f with
  | zero => rfl
  | succ f => rw [levelF, if_pos h]
theorem levelF_up {ns : List Name} {lv : Nat → Int} {f k : Nat} (h1 : lv k = 0) (h2 : ns.getD k [] ≠ []) : levelF ns lv (f + 1) k = levelF ns lv f (upN ns k) := by
  rw [levelF, if_neg]
  rintro (h | h)
  · exact h h1
  · exact h2 h

set_option maxHeartbeats 4000000 in
set_option maxRecDepth 100000 in
theorem implLevel_c {w : World} {B b o n1 k1 : Nat} {L : List Lgr} {ls : List LgrV} {nb : Nat → Nat} (k0 f0 : Nat) (hl : Ls w B n1 (.slice (some ⟨b, o, none⟩) n1 k1) ls) (hL : lsOf ls = L) (hlen : (nsOf L).length = n1) (h0 : (nsOf L)[0]? = some []) (hnm : ∀ z ∈ nsOf L, nameOk z = true)
    (hNd : Nodes w b o (nsOf L) nb (fun _ => false)) (hk0 : k0 < n1) (hd0 : depthN (nsOf L) k0 ≤ f0) :
    Calls Tryz.prog 52 #[.pointer (some ⟨nb k0, 0, none⟩)] w (fun e w' => e = .returned (.int .i64 (levelF (nsOf L) (lvAt L) f0 k0)) ∧ w = w') := by
  have HV := hid (And.intro hl (And.intro hL (And.intro hlen (And.intro h0 (And.intro hnm hNd)))))
  clear hl hL hlen h0 hnm hNd
  go_enter Tryz.func52, Tryz.ntmps52
  go_wp2_with fail
  go_loopg [0] (f0 + 1) (fun g nv wr => ∃ (k f : Nat), nv = .pointer (some ⟨nb k, 0, none⟩) ∧ k < n1 ∧ depthN (nsOf L) k ≤ f ∧ f + 1 = g ∧ Hid (levelF (nsOf L) (lvAt L) f k = levelF (nsOf L) (lvAt L) f0 k0) ∧ wr = w)
  case atStart => exact ⟨k0, f0, rfl, hk0, hd0, rfl, rfl, rfl⟩
  case round =>
    obtain ⟨k, f, rfl, hk, hd, rfl, HE, rfl⟩ := hrel
    obtain ⟨p, A3, hn', k3, A4, fn, k4, hp, hps, _, _, c0, c1, _⟩ := logger_at HV.out.1 HV.out.2.1 hk
    obtain ⟨m0, m1, m2, mlt⟩ := node_at HV.out.2.2.2.2.2 (k := k) (by rw [HV.out.2.2.1]; exact hk)
    have HM12 := hid (And.intro m1 m2)
    clear hp hps m1 m2 mlt
    by_cases hz : lvAt L k = 0
    · have e1 : (lvAt L k == 0) = true := by rw [hz]; rfl
      by_cases hr : (nsOf L).getD k [] = []
      · have m1 := HM12.out.1 hr
        have HF := hid (show levelF (nsOf L) (lvAt L) f0 k0 = lvAt L k by rw [← HE.out, levelF_stop (.inr hr)])
        clear hr hz
        go_wp2_with fail
        go_ret
        exact ⟨by rw [HF.out]; rfl, rfl⟩
      · have m2 := HM12.out.2 hr
        obtain ⟨g, rfl, _⟩ := pathF_up (ns := nsOf L) (f := f) (k := k) hr hd
        have HF := hid (show levelF (nsOf L) (lvAt L) g (upN (nsOf L) k) = levelF (nsOf L) (lvAt L) f0 k0 by rw [← HE.out, levelF_up hz hr])
        have HU := hid (show upN (nsOf L) k < n1 ∧ depthN (nsOf L) (upN (nsOf L) k) ≤ g by
          refine ⟨by rw [← HV.out.2.2.1]; exact near_lt HV.out.2.2.2.1 _, ?_⟩
          have := depth_up HV.out.2.2.2.1 HV.out.2.2.2.2.1 (k := k) (by rw [HV.out.2.2.1]; exact hk) hr
          omega)
        clear hr hz
        go_wp2_with fail
        go_roundg (g + 1)
        case measure => omega
        case rel => exact ⟨_, g, rfl, HU.out.1, HU.out.2, rfl, HF.out, rfl⟩
    · have e1 : (lvAt L k == 0) = false := by simpa using hz
      have HF := hid (show levelF (nsOf L) (lvAt L) f0 k0 = lvAt L k by rw [← HE.out, levelF_stop (.inl hz)])
      clear hz
      go_wp2_with fail
      go_ret
      exact ⟨by rw [HF.out]; rfl, rfl⟩

set_option maxHeartbeats 4000000 in
set_option maxRecDepth 100000 in
theorem implEffectiveLevel_c {w : World} {B : Nat} {v : Value} {L : List Lgr} {H : List Hnd} {q : Int} (x : ByteArray) (h : TreeIn w B v L H q) (hB : B ≤ w.heap.size) (hx : x.size ≤ maxLen) :
    Calls Tryz.prog 37 #[v, .string x] w (fun e w' => e = .returned (.int .i64 (levelT L H q x.data.toList)) ∧ Below w.heap.size w w') := by
  cases hz : (treeOk L H q && nameOk x.data.toList) with
  | false =>
    have C := hid (fun (W : World) (hW : Below w.heap.size w W) => implNode_no x (h.below hW hB) (Nat.le_trans hB hW.size) hx hz)
    have HE := hid (show levelT L H q x.data.toList = -1 by unfold levelT; rw [hz]; rfl)
    obtain ⟨A1, n1, k1, A2, n2, k2, rfl⟩ := h.form
    clear h hz
    go_enter Tryz.func37, Tryz.ntmps37
    go_wp2_with fail
    refine (C.out _ ?_).mono ?_
    case refine_1 => go_grown
    rintro e w1 ⟨rfl, hb1⟩
    have HB1 := hid (Below.trans (by go_grown) (hb1.mono (by simp; try omega)) : Below w.heap.size w w1)
    clear hb1
    go_wp2_with fail
    go_ret
    exact ⟨by rw [HE.out]; rfl, HB1.out⟩
  | true =>
    have hz' := hz
    simp only [Bool.and_eq_true] at hz'
    obtain ⟨b, o, n1, k1, A2, n2, k2, ls, rfl, hl, hL, hN, hn, hn8, hn1, hbB⟩ := h.opened hz'.1
    have C := hid (fun (W : World) (hW : Below w.heap.size w W) => implNode_yes x (h.below hW hB) (hl.below hW hB) hn8 hN (Nat.le_trans hB hW.size) hz'.2 hz'.1)
    obtain ⟨h0, hnd, hnm, hlen, _⟩ := tree_ns hz'.1
    rw [← hn] at hlen
    have HE := hid (show levelT L H q x.data.toList = levelF (nsOf L) (lvAt L) 4 (nearN (nsOf L) x.data.toList) by unfold levelT; rw [hz]; rfl)
    have LV := hid (fun (nb : Nat → Nat) (W : World) (hW : Below w.heap.size w W) (hNd : Nodes W b o (nsOf L) nb (fun _ => false)) => implLevel_c (nearN (nsOf L) x.data.toList) 4 (hl.below hW hB) hL hlen h0 hnm hNd (by rw [← hlen]; exact near_lt h0 _) (depth_le hnm _))
    clear h hz hz' hl hN h0 hnd hnm hn hlen hL
    go_enter Tryz.func37, Tryz.ntmps37
    go_wp2_with fail
    refine (C.out _ ?_).mono ?_
    case refine_1 => go_grown
    rintro e w1 ⟨nb, rfl, hNd, hb1⟩
    have HB1 := hid (Below.trans (by go_grown) (hb1.mono (by simp; try omega)) : Below w.heap.size w w1)
    have LE := hid (LV.out nb w1 HB1.out hNd)
    clear hb1 hNd
    go_wp2_with fail
    refine (LE.out).mono ?_
    rintro e w2 ⟨rfl, rfl⟩
    go_wp2_with fail
    go_ret
    exact ⟨by rw [HE.out]; rfl, HB1.out⟩

end Go.Proofs.YtioegkcekbkblaaGreat
