/-
  slices.DeleteFunc over texts of the call's own; detach; the model's without.
-/
import Derived.Test.YtioegkcekbkblaaGreatDL4
import Derived.Test.YtioegkcekbkblaaGreatCM
namespace Go.Proofs.YtioegkcekbkblaaGreat
open Go.RowKit Nm
set_option linter.unusedSimpArgs false
set_option linter.unusedVariables false

theorem notS_self (s : Name) : notS s s = false := by simp [notS]
theorem notS_ne {s x : Name} (h : ¬ x = s) : notS s x = true := by simp [notS, h]
theorem filt_none {s : Name} {l : List Name} (h : s ∉ l) : l.filter (notS s) = l := List.filter_eq_self.2 fun x hx => notS_ne fun e => h (e ▸ hx)
theorem take_snoc {α : Type} {l : List α} {j : Nat} {x : α} (h : l[j]? = some x) : l.take (j + 1) = l.take j ++ [x] := by rw [List.take_add_one, h]; rfl
theorem filt_keep {s x : Name} {l : List Name} {j : Nat} (h : l[j]? = some x) (hne : ¬ x = s) : (l.take (j + 1)).filter (notS s) = (l.take j).filter (notS s) ++ [x] := by
  rw [take_snoc h, List.filter_append, List.filter_cons, if_pos (notS_ne hne)]; rfl
theorem filt_drop {s : Name} {l : List Name} {j : Nat} (h : l[j]? = some s) : (l.take (j + 1)).filter (notS s) = (l.take j).filter (notS s) := by
  rw [take_snoc h, List.filter_append, List.filter_cons, notS_self]; simp
theorem take_idx (l : List Name) (x : Name) : x ∉ l.take (l.idxOf x) := by
  induction l with
  | nil => simp
  | cons a t ih =>
    rw [List.idxOf_cons]
    by_cases h : a = x
    · simp [h]
    · have hb : (a == x) = false := by simpa using h
      rw [hb, cond_false, List.take_succ_cons]
      intro hm
      rcases List.mem_cons.1 hm with e | e
      · exact h e.symm
      · exact ih e
theorem drop_next {α : Type} {a b : List α} {j : Nat} (h : a.drop j = b.drop j) : a.drop (j + 1) = b.drop (j + 1) := by
  rw [← List.drop_drop, ← List.drop_drop, h]
theorem at_drop {α : Type} {a b : List α} {j : Nat} (h : a.drop j = b.drop j) : a[j]? = b[j]? := by
  have := congrArg (fun l => l[0]?) h
  simpa using this

theorem zeroStr (w : World) : (zeroValue 9).run Tryz.prog w = .ok (.string ByteArray.empty) w := by kernel_rfl
set_option maxHeartbeats 8000000 in
set_option maxRecDepth 100000 in
theorem deleteTxt_c {W : World} {lo n bx : Nat} {l : List Name} {v : Value} (s : ByteArray) (hown : W.ownsRow lo 9 1 v n (l.map txt)) (hn : n ≤ 64) (hlo : lo ≤ W.heap.size) (hc : W.cell? ⟨bx, 0, none⟩ = some (.string s)) (hbx : v.ownBlock ≠ some bx) :
    Calls Tryz.prog 118 #[v, .func (.func 119) #[] #[.pointer (some ⟨bx, 0, none⟩)]] W
      (fun e w' => ∃ v', e = .returned v' ∧ w'.ownsRow lo 9 1 v' (l.filter (notS s.data.toList)).length ((l.filter (notS s.data.toList)).map txt) ∧ W.grownBy w' v.ownBlock ∧ v'.ownBlock = v.ownBlock) := by
  have hln : l.length = n := by have := hown.1; simpa using this
  have C := indexTxtFn_c v n W.heap.size bx l s W (Sl.of_own hown) (Nat.le_refl _) hc
  have hbxl : bx < W.heap.size := World.block_lt_of_cell? _ _ hc
  by_cases hin : s.data.toList ∈ l
  · obtain ⟨k0, hk0, hkl, hkx⟩ : ∃ k : Nat, idxL l s.data.toList = (k : Int) ∧ k < l.length ∧ l[k]? = some s.data.toList := by
      have h0 : idxL l s.data.toList = (l.idxOf s.data.toList : Int) := by unfold idxL; rw [if_pos hin]
      exact ⟨_, h0, idx_nat h0⟩
    have hk0' : k0 = l.idxOf s.data.toList := by
      have h0 : idxL l s.data.toList = (l.idxOf s.data.toList : Int) := by unfold idxL; rw [if_pos hin]
      omega
    have hnot : s.data.toList ∉ l.take k0 := by rw [hk0']; exact take_idx l _
    rw [hk0] at C
    obtain ⟨A, c, rfl, hnc, hcm⟩ := (Sl.of_own hown).form
    obtain ⟨g, rfl, hgl⟩ := own_some hown (by omega)
    have hgx : g ≠ bx := fun e => hbx (by rw [← e]; rfl)
    unfold maxLen at hcm
    have hk0n : k0 < n := by omega
    have s0 : IntKind.i64.wrap ((k0 : Int) + 1) = (k0 : Int) + 1 := by rw [IntKind.wrap_i64]; omega
    have s1 : ((k0 : Int) == -1) = false := by simp
    have HC := hid hc
    have HO := hid hown
    have HLn := hid hln
    have HX := hid (And.intro hkx hnot)
    have hzero := zeroStr
    replace C := hid C
    clear hc hown hln hkx hnot hin hk0 hk0' hbx hkl
    go_enter Tryz.func118, Tryz.ntmps118
    go_wp2_with fail
    refine (C.out).mono ?_
    rintro e w1 ⟨rfl, hb⟩
    have HO1 := hid (own_below HO.out hb)
    have HG1 := hid (grown_of hb (some g))
    clear hb
    go_wp2_with fail
    go_loopw [5, 6, 7] (fun iv jv av wr => ∃ (i j : Nat) (cur : List Name) (u : Value), iv = .int .i64 i ∧ jv = .int .i64 j ∧ av = u ∧ i < j ∧ j ≤ n ∧ Hid (cur.take i = (l.take j).filter (notS s.data.toList)) ∧ Hid (cur.drop j = l.drop j) ∧ Hid (cur.length = n) ∧ Hid (wr.ownsRow lo 9 1 (.slice (some ⟨g, 0, none⟩) n c) n (cur.map txt)) ∧ Hid (W.grownBy wr (some g))) (fun _ jv _ _ => n - (intOf jv).toNat)
    case atStart =>
      refine ⟨k0, k0 + 1, l, _, rfl, by go_num, rfl, by omega, by omega, ?_, rfl, HLn.out, HO1.out, HG1.out⟩
      show _ = _
      rw [filt_drop HX.out.1, filt_none HX.out.2]
    case round =>
      obtain ⟨i, j, cur, u, rfl, rfl, rfl, hij, hj, HT, HD, HLc, HOr, HGr⟩ := hrel
      by_cases hlt : j < n
      · obtain ⟨b, o, p, eA, _, hx, c0⟩ := (Sl.of_own HOr.out).text hlt
        have eA' : g = b ∧ o = 0 := by simp at eA; exact ⟨eA.1, eA.2.symm⟩
        obtain ⟨rfl, rfl⟩ := eA'
        simp only [Nat.zero_add] at c0
        have hlx : l[j]? = some p.data.toList := by rw [← at_drop HD.out]; exact hx
        have cx : wr.cell? ⟨bx, 0, none⟩ = some (.string s) := (World.cell?_of_block (HGr.out.block bx hbxl (fun e => hgx (Option.some.inj e).symm))).trans HC.out
        have E := hid (detachFn_c p s bx wr cx)
        have HP := hid (And.intro hlx hx)
        have s2 : (0 : Int) ≤ (j : Int) := by omega
        have s3 : (j : Int) < (n : Int) := by omega
        have s4 : ((j : Int)).toNat = j := by simp
        clear hx hlx eA cx
        cases hz : decide (p.data.toList = s.data.toList) with
        | true =>
          rw [hz] at E
          have HZ := hid (of_decide_eq_true hz)
          clear hz
          go_wp2_with (go_at_call 119; refine (E.out).mono ?_; rintro e w2 ⟨rfl, hb⟩)
          have HO2 := hid (own_below HOr.out hb)
          have HG2 := hid (grown2 HGr.out (grown_of hb (some g)))
          clear hb c0
          go_roundw
          case rel =>
            refine ⟨i, j + 1, cur, _, rfl, by go_num, rfl, by omega, by omega, ?_, drop_next HD.out, HLc.out, HO2.out, HG2.out⟩
            show _ = _
            rw [filt_drop (by rw [← HZ.out]; exact HP.out.1)]; exact HT.out
          case measure => simp [intOf]; omega
        | false =>
          rw [hz] at E
          have HZ := hid (of_decide_eq_false hz)
          have t2 : (0 : Int) ≤ (i : Int) := by omega
          have t3 : (i : Int) < (n : Int) := by omega
          have t4 : ((i : Int)).toNat = i := by simp
          clear hz
          obtain ⟨y, hy⟩ : ∃ y, cur[i]? = some y := ⟨_, List.getElem?_eq_getElem (by have := HLc.out; omega)⟩
          obtain ⟨py, hpy, _⟩ := txt_mk y
          have HY := hid (And.intro hy hpy)
          have HSt := hid (fun (w2 : World) (hb : Below wr.heap.size wr w2) => (show (w2.cell? ⟨g, i, none⟩ = some (.string py) ∧ w2.frozen? ⟨g, i, none⟩ = false) ∧ (w2.setCell ⟨g, i, none⟩ (.string p)).ownsRow lo 9 1 (.slice (some ⟨g, 0, none⟩) n c) n ((cur.map txt).set i (.string p)) ∧ W.grownBy (w2.setCell ⟨g, i, none⟩ (.string p)) (some g) from by
            have ho2 := own_below HOr.out hb
            have st := ho2.stored i (.string p)
            refine ⟨⟨?_, ho2.frozenAt i⟩, st.1, grown2 (grown2 HGr.out (grown_of hb (some g))) st.2⟩
            have h9 := ho2.cellAt i (by omega)
            rw [List.getElem?_map, HY.out.1] at h9
            rw [← HY.out.2]; exact h9))
          clear hy hpy
          go_wp2_with (go_at_call 119; refine (E.out).mono ?_; rintro e w2 ⟨rfl, hb⟩; have hst := HSt.out w2 hb; have hzc := hst.1.1; have hzf := hst.1.2; have HO3 := hid hst.2.1; have HG3 := hid hst.2.2; clear hst hb c0)
          go_roundw
          case rel =>
            refine ⟨i + 1, j + 1, cur.set i p.data.toList, _, by go_num, by go_num, rfl, by omega, by omega, ?_, ?_, by show (cur.set i _).length = n; rw [List.length_set]; exact HLc.out, ?_, HG3.out⟩
            · show _ = _
              rw [take_set HY.out.1, HT.out, filt_keep HP.out.1 HZ.out]
            · show _ = _
              rw [List.drop_set_of_lt (by omega)]; exact drop_next HD.out
            · show World.ownsRow _ _ _ _ _ _ _
              rw [List.map_set, txt_data]
              exact HO3.out
          case measure => simp [intOf]; omega
      · obtain rfl : j = n := by omega
        have hfin : cur.take i = l.filter (notS s.data.toList) := by
          have h := HT.out
          rwa [List.take_of_length_le (l := l) (by have := HLn.out; omega)] at h
        have hcut := own_cut HOr.out (k := i) (by omega)
        obtain ⟨w9, hcl, ho9, hg9⟩ := run_clear_own (P := Tryz.prog) (ty := 0) (c := c - i) Tryz.underlying62 (hzero wr) (size := 1) rfl (by decide) hcut (o := i) (q := j - i) (by omega) (by omega) (by omega)
        have hcl' : ∀ ty, (Builtin.clear_ #[62] ty #[.slice (some ⟨g, i, none⟩) (j - i) (c - i)]).run Tryz.prog wr = .ok (.tuple #[]) w9 := fun ty => hcl
        have hlen : (l.filter (notS s.data.toList)).length = i := by rw [← hfin, List.length_take]; have := HLc.out; omega
        have HO9 := hid (show w9.ownsRow lo 9 1 (.slice (some ⟨g, 0, none⟩) i c) (l.filter (notS s.data.toList)).length ((l.filter (notS s.data.toList)).map txt) by
          rw [hlen, ← hfin, List.map_take]; rw [Nat.mul_one] at ho9; exact ho9)
        have HG9 := hid (grown2 HGr.out hg9)
        have t2 : (0 : Int) ≤ (i : Int) := by omega
        have t3 : (i : Int) ≤ (j : Int) := by omega
        have t4 : ((i : Int)).toNat = i := by simp
        have t5 : (i : Int) ≤ (c : Int) := by omega
        have t6 : ¬ c = i := by omega
        have t7 : i ≤ j := by omega
        have t8 : i ≤ c := by omega
        clear hfin hcut hcl ho9 hg9 hlen
        go_wp2_with fail
        go_ret
        exact ⟨_, rfl, HO9.out, HG9.out, rfl⟩
  · rw [idx_miss _ _ hin] at C
    have HF := hid (filt_none hin)
    have HO := hid hown
    have HLn := hid hln
    replace C := hid C
    obtain ⟨A, c, rfl, _, _⟩ := (Sl.of_own hown).form
    clear hown hin hln hc
    go_enter Tryz.func118, Tryz.ntmps118
    go_wp2_with fail
    refine (C.out).mono ?_
    rintro e w1 ⟨rfl, hb⟩
    have HB := hid hb
    clear hb
    go_wp2_with fail
    go_ret
    refine ⟨_, rfl, ?_, grown_of HB.out _, rfl⟩
    rw [HF.out, HLn.out]
    exact own_below HO.out HB.out
end Go.Proofs.YtioegkcekbkblaaGreat
