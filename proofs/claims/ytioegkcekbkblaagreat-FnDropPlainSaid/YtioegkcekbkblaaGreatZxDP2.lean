/-
  slices.IndexFunc and slices.DeleteFunc over loggers, of those with nothing. By gen_dp2.py.
-/
import Derived.Test.YtioegkcekbkblaaGreatZxDP1
namespace Go.Proofs.YtioegkcekbkblaaGreat
open Go.RowKit Nm
set_option linter.unusedSimpArgs false
set_option linter.unusedVariables false

def LForm (x : LgrV) : Prop := ∃ A c A1 c1, x.hv = .slice A x.l.hs.length c ∧ x.fv = .slice A1 x.l.fs.length c1
def keepV (x : LgrV) : Bool := keepL x.l
theorem lform_cells {x : LgrV} (h : LForm x) : ∃ p A c A1 c1, p.data.toList = x.l.nm ∧ lcells x = [.string p, .int .i64 x.l.lv, .slice A x.l.hs.length c, .slice A1 x.l.fs.length c1, .bool x.l.stop, .bool x.l.off] := by
  obtain ⟨A, c, A1, c1, e1, e2⟩ := h
  obtain ⟨p, h1, h2⟩ := txt_mk x.l.nm
  exact ⟨p, A, c, A1, c1, h2, by unfold lcells; rw [h1, e1, e2]⟩
theorem filtP_keep {α : Type} {f : α → Bool} {l : List α} {j : Nat} {x : α} (h : l[j]? = some x) (hf : f x = true) : (l.take (j + 1)).filter f = (l.take j).filter f ++ [x] := by
  rw [take_snoc h, List.filter_append, List.filter_cons, if_pos hf]; rfl
theorem filtP_drop {α : Type} {f : α → Bool} {l : List α} {j : Nat} {x : α} (h : l[j]? = some x) (hf : f x = false) : (l.take (j + 1)).filter f = (l.take j).filter f := by
  rw [take_snoc h, List.filter_append, List.filter_cons, hf]; simp
theorem own_lcell {w : World} {lo n c g : Nat} {cur : List LgrV} (ho : w.ownsRow lo 72 6 (.slice (some ⟨g, 0, none⟩) n c) n (cur.flatMap lcells)) {k d : Nat} {x : LgrV} {u : Value} (hx : cur[k]? = some x) (hu : (lcells x)[d]? = some u) :
    w.cell? ⟨g, k * 6 + d, none⟩ = some u ∧ w.frozen? ⟨g, k * 6 + d, none⟩ = false := by
  have hj := (List.getElem?_eq_some_iff.1 hu).1
  rw [lcells_len] at hj
  have e := flat_get lcells 6 lcells_len cur k d x hx hj
  rw [hu] at e
  have hlt := (List.getElem?_eq_some_iff.1 e).1
  exact ⟨(ho.cellAt (k * 6 + d) (by have := ho.1; omega)).trans e, ho.frozenAt _⟩
theorem flat_set6 {α β : Type} {f : α → List β} (hf : ∀ x, (f x).length = 6) (l : List α) (i : Nat) (x y : α) {a0 a1 a2 a3 a4 a5 : β} (hx : f x = [a0, a1, a2, a3, a4, a5]) (hy : l[i]? = some y) :
    ((((((l.flatMap f).set (i * 6) a0).set (i * 6 + 1) a1).set (i * 6 + 2) a2).set (i * 6 + 3) a3).set (i * 6 + 4) a4).set (i * 6 + 5) a5 = (l.set i x).flatMap f := by
  induction l generalizing i with
  | nil => simp at hy
  | cons b l ih =>
    obtain ⟨b0, b1, b2, b3, b4, b5, e⟩ : ∃ b0 b1 b2 b3 b4 b5, f b = [b0, b1, b2, b3, b4, b5] := by
      have h := hf b
      match f b, h with
      | [b0, b1, b2, b3, b4, b5], _ => exact ⟨_, _, _, _, _, _, rfl⟩
    cases i with
    | zero => simp [e, hx]
    | succ k =>
      have h := ih k (by simpa using hy)
      have e6 : (k + 1) * 6 = k * 6 + 6 := by omega
      rw [e6, List.flatMap_cons, e, List.set_cons_succ, List.flatMap_cons, e, ← h]
      rfl
theorem own_lset {w : World} {lo n c g : Nat} {cur : List LgrV} (ho : w.ownsRow lo 72 6 (.slice (some ⟨g, 0, none⟩) n c) n (cur.flatMap lcells)) {i : Nat} {x y : LgrV} {a0 a1 a2 a3 a4 a5 : Value} (hx : lcells x = [a0, a1, a2, a3, a4, a5]) (hy : cur[i]? = some y) :
    ((((((w.setCell ⟨g, i * 6, none⟩ a0).setCell ⟨g, i * 6 + 1, none⟩ a1).setCell ⟨g, i * 6 + 2, none⟩ a2).setCell ⟨g, i * 6 + 3, none⟩ a3).setCell ⟨g, i * 6 + 4, none⟩ a4).setCell ⟨g, i * 6 + 5, none⟩ a5).ownsRow lo 72 6 (.slice (some ⟨g, 0, none⟩) n c) n ((cur.set i x).flatMap lcells) ∧
      w.grownBy ((((((w.setCell ⟨g, i * 6, none⟩ a0).setCell ⟨g, i * 6 + 1, none⟩ a1).setCell ⟨g, i * 6 + 2, none⟩ a2).setCell ⟨g, i * 6 + 3, none⟩ a3).setCell ⟨g, i * 6 + 4, none⟩ a4).setCell ⟨g, i * 6 + 5, none⟩ a5) (some g) := by
  have s0 := ho.stored (i * 6) a0
  have s1 := s0.1.stored (i * 6 + 1) a1
  have s2 := s1.1.stored (i * 6 + 2) a2
  have s3 := s2.1.stored (i * 6 + 3) a3
  have s4 := s3.1.stored (i * 6 + 4) a4
  have s5 := s4.1.stored (i * 6 + 5) a5
  refine ⟨?_, grown2 (grown2 (grown2 (grown2 (grown2 s0.2 s1.2) s2.2) s3.2) s4.2) s5.2⟩
  rw [← flat_set6 lcells_len cur i x y hx hy]
  exact s5.1

set_option maxHeartbeats 8000000 in
set_option maxRecDepth 100000 in
theorem indexLgrFn_c {W : World} {lo n c g : Nat} {ls : List LgrV} (hown : W.ownsRow lo 72 6 (.slice (some ⟨g, 0, none⟩) n c) n (ls.flatMap lcells)) (hln : ls.length = n) (hn : n ≤ 64) (hlf : ∀ x ∈ ls, LForm x) :
    Calls Tryz.prog 107 #[.slice (some ⟨g, 0, none⟩) n c, .func (.func 78) #[] #[]] W
      (fun e w' => ∃ r : Int, e = .returned (.int .i64 r) ∧ Below W.heap.size W w' ∧ ((r = -1 ∧ ∀ x ∈ ls, keepV x = true) ∨ (∃ (k : Nat) (x : LgrV), r = (k : Int) ∧ ls[k]? = some x ∧ keepV x = false ∧ ∀ y ∈ ls.take k, keepV y = true))) := by
  have HO := hid hown
  have HLn := hid hln
  have HF := hid hlf
  have hcap : n ≤ c := by obtain ⟨A, c', e, h, _⟩ := (Sl.of_own hown).form; simp at e; omega
  have hcm : c ≤ 9223372036854775807 := by obtain ⟨A, c', e, _, h⟩ := (Sl.of_own hown).form; unfold maxLen at h; simp at e; omega
  clear hown hln hlf
  go_enter Tryz.func107, Tryz.ntmps107
  go_wp2_with fail
  go_loopw [5, 8] (fun av iv wr => ∃ (k : Nat) (u : Value), iv = .int .i64 k ∧ av = u ∧ k ≤ n ∧ Hid (∀ y ∈ ls.take k, keepV y = true) ∧ Hid (Below W.heap.size W wr)) (fun _ iv _ => n - (intOf iv).toNat)
  case atStart => exact ⟨0, _, rfl, rfl, by omega, by simp [Hid], Below.refl _ _⟩
  case round =>
    obtain ⟨k, u, rfl, rfl, hk, HN, HB⟩ := hrel
    by_cases hlt : k < n
    · obtain ⟨x, hx⟩ : ∃ x, ls[k]? = some x := ⟨_, List.getElem?_eq_getElem (by have := HLn.out; omega)⟩
      obtain ⟨p, A, cc, A1, c1, hp, hcs⟩ := lform_cells (HF.out x (List.mem_of_getElem? hx))
      have ho := own_below HO.out HB.out
      have c0 := (own_lcell ho hx (d := 0) (u := .string p) (by rw [hcs]; rfl)).1
      have c1' := (own_lcell ho hx (d := 1) (u := .int .i64 x.l.lv) (by rw [hcs]; rfl)).1
      have c2 := (own_lcell ho hx (d := 2) (u := .slice A x.l.hs.length cc) (by rw [hcs]; rfl)).1
      have c3 := (own_lcell ho hx (d := 3) (u := .slice A1 x.l.fs.length c1) (by rw [hcs]; rfl)).1
      have c4 := (own_lcell ho hx (d := 4) (u := .bool x.l.stop) (by rw [hcs]; rfl)).1
      have c5 := (own_lcell ho hx (d := 5) (u := .bool x.l.off) (by rw [hcs]; rfl)).1
      have E := isPlain_c p x.l.lv A A1 x.l.hs.length cc x.l.fs.length c1 x.l.stop x.l.off wr
      have hkp : (!decide (p.data.toList = []) && bareB x.l.lv x.l.hs.length x.l.fs.length x.l.stop x.l.off) = !keepV x := by unfold keepV; rw [keep_eq, hp]; simp
      rw [hkp] at E
      have HX := hid hx
      simp only [Nat.add_zero] at c0
      have s0 : (0 : Int) ≤ (k : Int) := by omega
      have s1 : (k : Int) < (n : Int) := by omega
      have s2 : ((k : Int)).toNat = k := by simp
      generalize x.l.lv = lv at *
      generalize x.l.hs.length = hn at *
      generalize x.l.fs.length = fn at *
      generalize x.l.stop = st at *
      generalize x.l.off = off at *
      clear hx hp hcs ho hkp
      cases hz : keepV x with
      | false =>
        rw [hz] at E
        have HZ := hid hz
        replace E := hid E
        clear hz
        go_wp2_with (go_at_call 78; refine (E.out).mono ?_; rintro e w2 ⟨rfl, hb⟩)
        go_ret
        exact ⟨k, rfl, HB.out.trans (hb.mono HB.out.size), .inr ⟨k, x, rfl, HX.out, HZ.out, HN.out⟩⟩
      | true =>
        rw [hz] at E
        have HZ := hid hz
        replace E := hid E
        clear hz
        go_wp2_with (go_at_call 78; refine (E.out).mono ?_; rintro e w2 ⟨rfl, hb⟩)
        go_roundw
        case rel =>
          refine ⟨k + 1, _, by go_num, rfl, by omega, fun y hy => ?_, HB.out.trans (hb.mono HB.out.size)⟩
          rw [take_snoc HX.out] at hy
          rcases List.mem_append.1 hy with hy | hy
          · exact HN.out y hy
          · rw [List.mem_singleton] at hy; rw [hy]; exact HZ.out
        case measure => simp [intOf]; omega
    · have HE := hid (show ∀ x ∈ ls, keepV x = true by
        have h := HN.out
        rwa [List.take_of_length_le (by have := HLn.out; omega)] at h)
      go_wp2_with fail
      go_ret
      exact ⟨-1, rfl, HB.out, .inl ⟨rfl, HE.out⟩⟩

set_option maxHeartbeats 8000000 in
set_option maxRecDepth 100000 in
theorem deleteLgrFn_c {W : World} {lo n c g : Nat} {ls : List LgrV} (hown : W.ownsRow lo 72 6 (.slice (some ⟨g, 0, none⟩) n c) n (ls.flatMap lcells)) (hln : ls.length = n) (hn : n ≤ 64) (hlf : ∀ x ∈ ls, LForm x) :
    Calls Tryz.prog 77 #[.slice (some ⟨g, 0, none⟩) n c, .func (.func 78) #[] #[]] W
      (fun e w' => ∃ m, e = .returned (.slice (some ⟨g, 0, none⟩) m c) ∧ m = (ls.filter keepV).length ∧ w'.ownsRow lo 72 6 (.slice (some ⟨g, 0, none⟩) m c) m ((ls.filter keepV).flatMap lcells) ∧ W.grownBy w' (some g)) := by
  have C := hid (indexLgrFn_c hown hln hn hlf)
  have HO := hid hown
  have HLn := hid hln
  have HF := hid hlf
  have hcap : n ≤ c := by obtain ⟨A, c', e, h, _⟩ := (Sl.of_own hown).form; simp at e; omega
  have hcm : c ≤ 9223372036854775807 := by obtain ⟨A, c', e, _, h⟩ := (Sl.of_own hown).form; unfold maxLen at h; simp at e; omega
  have hzero := zeroLgr
  clear hown hln hlf
  go_enter Tryz.func77, Tryz.ntmps77
  go_wp2_with (go_at_call 107; refine (C.out).mono ?_; rintro e w1 ⟨r, rfl, hb, hr⟩; rcases hr with ⟨rfl, hall⟩ | ⟨k0, x0, rfl, hx0, hk0, hnot⟩)
  · have HALL := hid hall
    have HB := hid hb
    clear hall hb
    go_wp2_with fail
    go_ret
    have hf : ls.filter keepV = ls := List.filter_eq_self.2 HALL.out
    exact ⟨n, rfl, by rw [hf]; exact HLn.out.symm, by rw [hf]; exact own_below HO.out HB.out, grown_of HB.out _⟩
  have hk0n : k0 < n := by have := (List.getElem?_eq_some_iff.1 hx0).1; have := HLn.out; omega
  have s0 : IntKind.i64.wrap ((k0 : Int) + 1) = (k0 : Int) + 1 := by rw [IntKind.wrap_i64]; omega
  have s0w : wrap64 ((k0 : Int) + 1) = (k0 : Int) + 1 := by have h := s0; rw [IntKind.wrap_i64] at h; unfold wrap64; omega
  have s1 : ((k0 : Int) == -1) = false := by simp
  have HX0 := hid (And.intro hx0 (And.intro hk0 hnot))
  have HO1 := hid (own_below HO.out hb)
  have HG1 := hid (grown_of hb (some g))
  clear hx0 hk0 hnot hb
  simp only [s0w, s1]
  go_wp2_with fail
  go_loopw [5, 6] (fun iv jv wr => ∃ (i j : Nat) (cur : List LgrV), iv = .int .i64 i ∧ jv = .int .i64 j ∧ i < j ∧ j ≤ n ∧ Hid (cur.take i = (ls.take j).filter keepV) ∧ Hid (cur.drop j = ls.drop j) ∧ Hid (cur.length = n) ∧ Hid (∀ x ∈ cur, LForm x) ∧ Hid (wr.ownsRow lo 72 6 (.slice (some ⟨g, 0, none⟩) n c) n (cur.flatMap lcells)) ∧ Hid (W.grownBy wr (some g))) (fun _ jv _ => n - (intOf jv).toNat)
  case atStart =>
    refine ⟨k0, k0 + 1, ls, rfl, by go_num, by omega, by omega, ?_, rfl, HLn.out, HF.out, HO1.out, HG1.out⟩
    show _ = _
    rw [filtP_drop HX0.out.1 HX0.out.2.1, List.filter_eq_self.2 HX0.out.2.2]
  case round =>
    obtain ⟨i, j, cur, rfl, rfl, hij, hj, HT, HD, HLc, HFc, HOr, HGr⟩ := hrel
    by_cases hlt : j < n
    · obtain ⟨x, hx⟩ : ∃ x, cur[j]? = some x := ⟨_, List.getElem?_eq_getElem (by have := HLc.out; omega)⟩
      obtain ⟨y, hy⟩ : ∃ y, cur[i]? = some y := ⟨_, List.getElem?_eq_getElem (by have := HLc.out; omega)⟩
      obtain ⟨p, A, cc, A1, c1, hp, hcs⟩ := lform_cells (HFc.out x (List.mem_of_getElem? hx))
      obtain ⟨py, Ay, ccy, A1y, c1y, hpy, hcsy⟩ := lform_cells (HFc.out y (List.mem_of_getElem? hy))
      have ho := HOr.out
      have c0 := (own_lcell ho hx (d := 0) (u := .string p) (by rw [hcs]; rfl)).1
      have c1' := (own_lcell ho hx (d := 1) (u := .int .i64 x.l.lv) (by rw [hcs]; rfl)).1
      have c2 := (own_lcell ho hx (d := 2) (u := .slice A x.l.hs.length cc) (by rw [hcs]; rfl)).1
      have c3 := (own_lcell ho hx (d := 3) (u := .slice A1 x.l.fs.length c1) (by rw [hcs]; rfl)).1
      have c4 := (own_lcell ho hx (d := 4) (u := .bool x.l.stop) (by rw [hcs]; rfl)).1
      have c5 := (own_lcell ho hx (d := 5) (u := .bool x.l.off) (by rw [hcs]; rfl)).1
      have hlx : ls[j]? = some x := by rw [← at_drop HD.out]; exact hx
      have hkp : (!decide (p.data.toList = []) && bareB x.l.lv x.l.hs.length x.l.fs.length x.l.stop x.l.off) = !keepV x := by unfold keepV; rw [keep_eq, hp]; simp
      have E := fun W => isPlain_c p x.l.lv A A1 x.l.hs.length cc x.l.fs.length c1 x.l.stop x.l.off W
      rw [hkp] at E
      have HX := hid (And.intro hlx hx)
      have HFX := hid (HFc.out x (List.mem_of_getElem? hx))
      simp only [Nat.add_zero] at c0
      have s0 : (0 : Int) ≤ (j : Int) := by omega
      have s1 : (j : Int) < (n : Int) := by omega
      have s2 : ((j : Int)).toNat = j := by simp
      have HCS := hid (And.intro hcs hcsy)
      generalize x.l.lv = lv at *
      generalize x.l.hs.length = hn at *
      generalize x.l.fs.length = fn at *
      generalize x.l.stop = st at *
      generalize x.l.off = off at *
      generalize y.l.lv = ylv at *
      generalize y.l.hs.length = yhn at *
      generalize y.l.fs.length = yfn at *
      generalize y.l.stop = yst at *
      generalize y.l.off = yoff at *
      have HY := hid hy
      have HKX := hid (Blk.new wr #[.string p, .int .i64 lv, .slice A hn cc, .slice A1 fn c1, .bool st, .bool off] 72)
      have hxb : Below wr.heap.size wr (wr.alloc (.cells #[.string p, .int .i64 lv, .slice A hn cc, .slice A1 fn c1, .bool st, .bool off] 72)) := (Below.refl _ _).alloc (Nat.le_refl _) _
      have HXB := hid hxb
      have HEE := hid E
      clear hx hy hp hpy hcs hcsy ho hkp hlx hxb E
      cases hz : keepV x with
      | false =>
        have E := HEE.out
        rw [hz] at E
        have HZ := hid hz
        replace E := hid E
        clear hz
        go_wp2_with (go_at_call 78; refine (E.out _).mono ?_; rintro e w2 ⟨rfl, hb⟩)
        have HO2 := hid (own_below HOr.out (HXB.out.trans (hb.mono HXB.out.size)))
        have HG2 := hid (grown2 HGr.out (grown_of (HXB.out.trans (hb.mono HXB.out.size)) (some g)))
        clear hb c0 c1' c2 c3 c4 c5
        go_roundw
        case rel =>
          refine ⟨i, j + 1, cur, rfl, by go_num, by omega, by omega, ?_, drop_next HD.out, HLc.out, HFc.out, HO2.out, HG2.out⟩
          show _ = _
          rw [filtP_drop HX.out.1 HZ.out]; exact HT.out
        case measure => simp [intOf]; omega
      | true =>
        have E := HEE.out
        rw [hz] at E
        have HZ := hid hz
        replace E := hid E
        clear hz
        have t2 : (0 : Int) ≤ (i : Int) := by omega
        have t3 : (i : Int) < (n : Int) := by omega
        have t4 : ((i : Int)).toNat = i := by simp
        go_wp2_with (go_at_call 78; refine (E.out _).mono ?_; rintro e w2 ⟨rfl, hb⟩; have ho2 := own_below HOr.out (HXB.out.trans (hb.mono HXB.out.size)); have hg2 := grown2 HGr.out (grown_of (HXB.out.trans (hb.mono HXB.out.size)) (some g)); have hst := own_lset ho2 HCS.out.1 HY.out; have HO3 := hid hst.1; have HG3 := hid (grown2 hg2 hst.2); have KX2 := HKX.out.to hb; have b0 := (KX2.2 0 _ rfl).1; have b1 := (KX2.2 1 _ rfl).1; have b2 := (KX2.2 2 _ rfl).1; have b3 := (KX2.2 3 _ rfl).1; have b4 := (KX2.2 4 _ rfl).1; have b5 := (KX2.2 5 _ rfl).1; obtain ⟨y0, z0⟩ := own_lcell ho2 HY.out (d := 0) (u := .string py) (by rw [HCS.out.2]; rfl); obtain ⟨y1, z1⟩ := own_lcell ho2 HY.out (d := 1) (u := .int .i64 ylv) (by rw [HCS.out.2]; rfl); obtain ⟨y2, z2⟩ := own_lcell ho2 HY.out (d := 2) (u := .slice Ay yhn ccy) (by rw [HCS.out.2]; rfl); obtain ⟨y3, z3⟩ := own_lcell ho2 HY.out (d := 3) (u := .slice A1y yfn c1y) (by rw [HCS.out.2]; rfl); obtain ⟨y4, z4⟩ := own_lcell ho2 HY.out (d := 4) (u := .bool yst) (by rw [HCS.out.2]; rfl); obtain ⟨y5, z5⟩ := own_lcell ho2 HY.out (d := 5) (u := .bool yoff) (by rw [HCS.out.2]; rfl); simp only [Nat.add_zero] at y0 z0; clear ho2 hg2 hst KX2 hb c0 c1' c2 c3 c4 c5)
        go_roundw
        case rel =>
          refine ⟨i + 1, j + 1, cur.set i x, by go_num, by go_num, by omega, by omega, ?_, ?_, by show (cur.set i _).length = n; rw [List.length_set]; exact HLc.out, ?_, HO3.out, HG3.out⟩
          · show _ = _
            rw [take_set HY.out, HT.out, filtP_keep HX.out.1 HZ.out]
          · show _ = _
            rw [List.drop_set_of_lt (by omega)]; exact drop_next HD.out
          · intro a ha
            rcases List.mem_or_eq_of_mem_set ha with ha | rfl
            · exact HFc.out a ha
            · exact HFX.out
        case measure => simp [intOf]; omega
    · obtain rfl : j = n := by omega
      have hfin : cur.take i = ls.filter keepV := by
        have h := HT.out
        rwa [List.take_of_length_le (l := ls) (by have := HLn.out; omega)] at h
      have hcut := own_cut HOr.out (k := i) (by omega)
      obtain ⟨w9, hcl, ho9, hg9⟩ := run_clear_own (P := Tryz.prog) (ty := 0) (c := c - i) Tryz.underlying23 (hzero wr) (size := 6) rfl (by decide) hcut (o := i * 6) (q := j - i) (by omega) (by omega) (by omega)
      have hcl' : ∀ ty, (Builtin.clear_ #[23] ty #[.slice (some ⟨g, i * 6, none⟩) (j - i) (c - i)]).run Tryz.prog wr = .ok (.tuple #[]) w9 := fun ty => hcl
      have hlen : (ls.filter keepV).length = i := by rw [← hfin, List.length_take]; have := HLc.out; omega
      have HO9 := hid (show w9.ownsRow lo 72 6 (.slice (some ⟨g, 0, none⟩) i c) i ((ls.filter keepV).flatMap lcells) by
        rw [← hfin, ← flat_takeD lcells_len]; exact ho9)
      have HG9 := hid (grown2 HGr.out hg9)
      have HLN := hid hlen
      have t2 : (0 : Int) ≤ (i : Int) := by omega
      have t3 : (i : Int) ≤ (j : Int) := by omega
      have t4 : ((i : Int)).toNat = i := by simp
      have t5 : (i : Int) ≤ (c : Int) := by omega
      have t6 : ¬ c = i := by omega
      have t7 : i ≤ j := by omega
      have t8 : i ≤ c := by omega
      clear hfin hcut hcl ho9 hg9 hlen
      go_wp2_with fail
      go_ret
      exact ⟨_, rfl, HLN.out.symm, HO9.out, HG9.out⟩
end Go.Proofs.YtioegkcekbkblaaGreat
