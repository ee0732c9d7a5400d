/-
  WALK: the law FnSampleRecords. By gen_samp.py.
-/
import Derived.Test.YtjliipnjifongaaE31
namespace Go.Proofs.Ytjliipnjifongaa
open Go.RowKit Nm
set_option linter.unusedSimpArgs false
set_option linter.unusedVariables false
theorem sampLe {k : IntKind} {w : World} {a : Option Addr} {len cap : Nat} {z : List Int} (h : IsRow k w a len cap z) : len ≤ 9223372036854775807 := by
  rcases h with ⟨_, h, _, _⟩ | ⟨x, _, h1, h2, _⟩
  · omega
  · unfold maxLen at h2; omega
set_option maxHeartbeats 1000000 in
set_option maxRecDepth 100000 in
theorem sampHas_c (v : Value) (n B : Nat) (l : List (List UInt8)) (s : ByteArray) (w : World) (hv : Sl w B 1 n v (l.map txt)) :
    Calls Try.prog 16 #[v, .string s] w fun e w' => e = .returned (.bool (decide (s.data.toList ∈ l))) ∧ w' = w := by
  have hln : l.length = n := by have := hv.1; simpa using this
  obtain ⟨A, c, rfl, hnc, hcm⟩ := hv.form
  unfold maxLen at hcm
  have HV := hid (And.intro hv hln)
  clear hv hln
  go_enter Try.func16, Try.ntmps16
  go_wp2_with fail
  go_loop [5] (fun iv => ∃ k : Nat, iv = .int .i64 k ∧ k ≤ n ∧ Hid (s.data.toList ∉ l.take k)) (fun iv => n - (intOf iv).toNat)
  case atStart => exact ⟨0, rfl, by omega, by simp [Hid]⟩
  case round =>
    obtain ⟨k, rfl, hk, HN⟩ := hrel
    by_cases hlt : k < n
    · obtain ⟨b, o, rfl, hb, hcl⟩ := sl_elem HV.out.1 hlt
      obtain ⟨p, hp1, hp2⟩ := txt_at l k (by have := HV.out.2; omega)
      have g0 : w.cell? ⟨b, o + k, none⟩ = some (.string p) := by have := hcl 0 _ (by simpa using hp2); simpa using this
      have HX := hid hp1
      clear hp1 hp2 hcl
      by_cases he : p.data.toList = s.data.toList
      · have e1 := eq_true_of he
        have HE := hid (show decide (s.data.toList ∈ l) = true from decide_eq_true (by rw [← he]; exact List.mem_of_getElem? HX.out))
        clear he
        go_wp2_with fail
        go_ret
        exact ⟨ret_bool HE.out.symm, rfl⟩
      · have e1 := eq_false_of he
        have HE := hid (not_take_succ _ _ _ _ HN.out HX.out he)
        clear he
        go_wp2_with fail
        refine ⟨⟨k + 1, by go_num, by omega, HE⟩, by simp [intOf]; omega⟩
    · have HE := hid (show decide (s.data.toList ∈ l) = false from decide_eq_false (by have := HN.out; rwa [List.take_of_length_le (by have := HV.out.2; omega)] at this))
      go_wp2_with fail
      go_ret
      exact ⟨ret_bool HE.out.symm, rfl⟩

set_option maxHeartbeats 8000000 in
set_option maxRecDepth 100000 in
theorem walk_FnSampleRecords (a0 : Option Addr) (len0 cap0 : Nat) (z0 : List Int) (w : World) (w0 : IsRow .u8 w a0 len0 cap0 z0) :
    Calls Try.prog 4 #[.slice a0 len0 cap0] w (BoolPost w true) := by
  have hb0 := sampLe w0
  by_cases h1 : (1048576 : Int) < (len0 : Int)
  · go_enter Try.func4, Try.ntmps4
    go_wp2_with fail
    go_ret
    exact ⟨rfl, Below.refl _ _⟩
  have DR := hid (drawSampleRecords_c a0 len0 cap0 z0 w w0)
  clear w0
  go_enter Try.func4, Try.ntmps4
  go_wp2_with fail
  refine DR.out.mono ?_
  rintro e w1 ⟨A, c, n, l, z1, z2, rfl, hof, hb, hrf, hln, hn25, hz1a, hz1b, hz2a, hz2b⟩
  obtain ⟨A', c', he', _, hcm⟩ := (Sl.of_own hof).form
  injection he' with e1 e2 e3
  subst e1 e3
  clear e2
  unfold maxLen at hcm
  have F1 := hid (show Rs w1 w1.heap.size n (.slice A n c) l from ⟨Sl.of_own hof, fun f hf => by have := hrf f hf; unfold rcellsFit maxTxt; omega⟩)
  have HB := hid hb
  have CV := hid (fun (W : World) (hW : Below w1.heap.size w1 W) => implValidRecords_c (.slice A n c) n w1.heap.size l W (F1.out.below hW (Nat.le_refl _)) hW.size)
  have CI := hid (fun (x y : Int) (W : World) (hW : Below w1.heap.size w1 W) => implSample_c (.slice A n c) n w1.heap.size l x y W (F1.out.below hW (Nat.le_refl _)) hW.size (by unfold maxTxt; omega))
  have CS := hid (fun (W : World) (hW : Below w1.heap.size w1 W) => specSample_c (.slice A n c) n w1.heap.size l z1 z2 W (F1.out.below hW (Nat.le_refl _)) hW.size (by unfold maxTxt; omega))
  have C1 := hid (CI.out z1 z2 w1 (Below.refl _ _))
  have HM := hid (And.intro (@samp_len l z1 z2) (And.intro hln (fun (hs : sampOk l z1 z2 = true) (hz : 0 < z1) (k : Nat) (x : Rec) (hx : l[k]? = some x) (hn : ∀ y ∈ l.take k, y.tx ≠ x.tx) => samp_first hs hz hx hn)))
  have hm12 := sampleL_len l z1 z2
  obtain ⟨kk, hkk⟩ : ∃ kk, kk = sampK l z1 z2 := ⟨_, rfl⟩
  have hkk1 : ∀ k, kk k ≤ kk (k + 1) := by rw [hkk]; exact sampK_le l z1 z2
  have hkk0 : kk 0 = 0 := by rw [hkk]; rfl
  rw [← hkk] at HM
  generalize sampleL l z1 z2 = d at CS C1 HM hm12
  generalize hm : d.length = m at CS C1 HM hm12
  replace hm := hid hm
  replace hkk1 := hid hkk1
  have HW1 := hid (Below.refl w1.heap.size w1)
  clear hof hb hrf hln DR hkk
  go_wp2_with fail
  refine C1.out.mono ?_
  rintro e w2 ⟨v2, rfl, ho2, hb⟩
  obtain ⟨A2, c2, rfl, _, hcm2⟩ := (Sl.of_own ho2).form
  unfold maxLen at hcm2
  have HW2 := hid (HW1.out.trans hb)
  have O2 := hid (Sl.of_own ho2)
  have CE := hid (fun (W : World) (hW : Below w2.heap.size w2 W) (v3 : Value) (h3 : Sl W W.heap.size 4 m v3 (d.flatMap rcells)) => equalRecords_c (.slice A2 m c2) v3 m W.heap.size d W ((O2.out.below hW (Nat.le_refl _)).more hW.size) h3 (Nat.le_refl _))
  have HX2 := hid (Below.refl w2.heap.size w2)
  clear hb ho2 C1
  go_wp2_with fail
  refine (CS.out _ HW2.out).mono ?_
  rintro e w3 ⟨v3, rfl, ho3, hb⟩
  obtain ⟨A3, c3, rfl, _, hcm3⟩ := (Sl.of_own ho3).form
  unfold maxLen at hcm3
  have HW3 := hid (HW2.out.trans (hb.mono HW2.out.size))
  have HX3 := hid (HX2.out.trans hb)
  have O3 := hid (Sl.of_own ho3)
  clear hb ho3
  go_wp2_with fail
  refine (CE.out _ HX3.out _ O3.out).mono ?_
  rintro e w4 ⟨rfl, hb⟩
  have HW4 := hid (HW3.out.trans (hb.mono HW3.out.size))
  have HX4 := hid (HX3.out.trans (hb.mono HX3.out.size))
  clear hb
  generalize hok : recsOk l = ok at CV
  replace hok := hid hok
  go_wp2_with fail
  refine (CV.out _ HW4.out).mono ?_
  rintro e w5 ⟨rfl, hb⟩
  have HW5 := hid (HW4.out.trans (hb.mono HW4.out.size))
  have HX5 := hid (HX4.out.trans (hb.mono HX4.out.size))
  clear hb O3 HX2 HX3 HX4 HW1 HW2 HW3 HW4
  cases ok with
  | false =>
    clear CI HM hkk1
    go_wp2_with fail
    refine (CS.out _ HW5.out).mono ?_
    rintro e w6 ⟨v6, rfl, ho6, hb⟩
    obtain ⟨A6, c6, rfl, _, hcm6⟩ := (Sl.of_own ho6).form
    unfold maxLen at hcm6
    have HW6 := hid (HW5.out.trans (hb.mono HW5.out.size))
    have HX6 := hid (HX5.out.trans (hb.mono HX5.out.size))
    have O6 := hid (Sl.of_own ho6)
    clear hb ho6
    go_wp2_with fail
    refine (CE.out _ HX6.out _ O6.out).mono ?_
    rintro e w7 ⟨rfl, hb⟩
    have HW7 := hid (HW6.out.trans (hb.mono HW6.out.size))
    clear hb
    go_wp2_with fail
    go_ret
    exact ⟨rfl, HB.out.trans (HW7.out.mono HB.out.size)⟩
  | true =>
    by_cases q1 : z1 < 0
    · clear CI HM hkk1
      go_wp2_with fail
      refine (CS.out _ HW5.out).mono ?_
      rintro e w6 ⟨v6, rfl, ho6, hb⟩
      obtain ⟨A6, c6, rfl, _, hcm6⟩ := (Sl.of_own ho6).form
      unfold maxLen at hcm6
      have HW6 := hid (HW5.out.trans (hb.mono HW5.out.size))
      have HX6 := hid (HX5.out.trans (hb.mono HX5.out.size))
      have O6 := hid (Sl.of_own ho6)
      clear hb ho6
      go_wp2_with fail
      refine (CE.out _ HX6.out _ O6.out).mono ?_
      rintro e w7 ⟨rfl, hb⟩
      have HW7 := hid (HW6.out.trans (hb.mono HW6.out.size))
      clear hb
      go_wp2_with fail
      go_ret
      exact ⟨rfl, HB.out.trans (HW7.out.mono HB.out.size)⟩
    by_cases q2 : 12 < z1
    · clear CI HM hkk1
      go_wp2_with fail
      refine (CS.out _ HW5.out).mono ?_
      rintro e w6 ⟨v6, rfl, ho6, hb⟩
      obtain ⟨A6, c6, rfl, _, hcm6⟩ := (Sl.of_own ho6).form
      unfold maxLen at hcm6
      have HW6 := hid (HW5.out.trans (hb.mono HW5.out.size))
      have HX6 := hid (HX5.out.trans (hb.mono HX5.out.size))
      have O6 := hid (Sl.of_own ho6)
      clear hb ho6
      go_wp2_with fail
      refine (CE.out _ HX6.out _ O6.out).mono ?_
      rintro e w7 ⟨rfl, hb⟩
      have HW7 := hid (HW6.out.trans (hb.mono HW6.out.size))
      clear hb
      go_wp2_with fail
      go_ret
      exact ⟨rfl, HB.out.trans (HW7.out.mono HB.out.size)⟩
    by_cases q3 : z2 < 1
    · clear CI HM hkk1
      go_wp2_with fail
      refine (CS.out _ HW5.out).mono ?_
      rintro e w6 ⟨v6, rfl, ho6, hb⟩
      obtain ⟨A6, c6, rfl, _, hcm6⟩ := (Sl.of_own ho6).form
      unfold maxLen at hcm6
      have HW6 := hid (HW5.out.trans (hb.mono HW5.out.size))
      have HX6 := hid (HX5.out.trans (hb.mono HX5.out.size))
      have O6 := hid (Sl.of_own ho6)
      clear hb ho6
      go_wp2_with fail
      refine (CE.out _ HX6.out _ O6.out).mono ?_
      rintro e w7 ⟨rfl, hb⟩
      have HW7 := hid (HW6.out.trans (hb.mono HW6.out.size))
      clear hb
      go_wp2_with fail
      go_ret
      exact ⟨rfl, HB.out.trans (HW7.out.mono HB.out.size)⟩
    by_cases q4 : 12 < z2
    · clear CI HM hkk1
      go_wp2_with fail
      refine (CS.out _ HW5.out).mono ?_
      rintro e w6 ⟨v6, rfl, ho6, hb⟩
      obtain ⟨A6, c6, rfl, _, hcm6⟩ := (Sl.of_own ho6).form
      unfold maxLen at hcm6
      have HW6 := hid (HW5.out.trans (hb.mono HW5.out.size))
      have HX6 := hid (HX5.out.trans (hb.mono HX5.out.size))
      have O6 := hid (Sl.of_own ho6)
      clear hb ho6
      go_wp2_with fail
      refine (CE.out _ HX6.out _ O6.out).mono ?_
      rintro e w7 ⟨rfl, hb⟩
      have HW7 := hid (HW6.out.trans (hb.mono HW6.out.size))
      clear hb
      go_wp2_with fail
      go_ret
      exact ⟨rfl, HB.out.trans (HW7.out.mono HB.out.size)⟩
    obtain ⟨hmn, hln, HF⟩ := HM.out
    have hmn : (m : Int) ≤ (n : Int) := by omega
    have hsk := sampOk_of hok.out (show 0 ≤ z1 by omega) (show z1 ≤ 12 by omega) (show 1 ≤ z2 by omega) (show z2 ≤ 12 by omega)
    have C7 := hid (show Calls Try.prog 18 #[.slice A n c, .int .i64 z1, .int .i64 1] w5 (RowPost w5 32 4 n (l.flatMap rcells)) from by
      have h9 := CI.out z1 1 w5 HW5.out
      rw [samp_one (sampOk_of hok.out (by omega) (by omega) (by omega) (by omega)), hln] at h9
      exact h9)
    have C8 := hid (fun (W : World) (hW : Below w1.heap.size w1 W) => (show Calls Try.prog 18 #[.slice A n c, .int .i64 12, .int .i64 z2] W (RowPost W 32 4 n (l.flatMap rcells)) from by
      have h9 := CI.out 12 z2 W hW
      rw [samp_most (sampOk_of hok.out (by omega) (by omega) (by omega) (by omega)), hln] at h9
      exact h9))
    have HG := hid (HF hsk)
    clear HF CI HM CS CV CE hsk
    replace hln := hid hln
    go_wp2_with fail
    refine C7.out.mono ?_
    rintro e w6 ⟨v6, rfl, ho6, hb⟩
    obtain ⟨A6, c6, rfl, _, hcm6⟩ := (Sl.of_own ho6).form
    unfold maxLen at hcm6
    have HW6 := hid (HW5.out.trans (hb.mono HW5.out.size))
    have HX6 := hid (HX5.out.trans (hb.mono HX5.out.size))
    have O6 := hid (Sl.of_own ho6)
    clear hb ho6 C7
    go_wp2_with fail
    refine (C8.out _ HW6.out).mono ?_
    rintro e w7 ⟨v7, rfl, ho7, hb⟩
    obtain ⟨A7, c7, rfl, _, hcm7⟩ := (Sl.of_own ho7).form
    unfold maxLen at hcm7
    have HW7 := hid (HW6.out.trans (hb.mono HW6.out.size))
    have HX7 := hid (HX6.out.trans (hb.mono HX6.out.size))
    have GA := hid ((O6.out.below hb (Nat.le_refl _)).more hb.size)
    have GN := hid (Sl.of_own ho7)
    have GL := hid ((F1.out.1.below HW7.out (Nat.le_refl _)).more HW7.out.size)
    have GO := hid ((O2.out.below HX7.out (Nat.le_refl _)).more HX7.out.size)
    clear hb ho7 C8 O2 O6 F1 HX5 HX6 HX7 HW5 HW6
    go_wp2_with fail
    go_loopw [9, 10, 11] (fun sv av kv wr => ∃ (k p : Nat) (s : List (List UInt8)), kv = .int .i64 k ∧ av = .int .i64 p ∧ k ≤ n ∧ p ≤ kk k ∧ Hid (0 < z1 → ∀ r ∈ l.take k, r.tx ∈ s) ∧ s.length ≤ k ∧ wr.ownsRow w7.heap.size 9 1 sv s.length (s.map txt) ∧ Hid (Below w7.heap.size w7 wr)) (fun _ _ kv _ => n - (intOf kv).toNat)
    case atStart =>
      refine ⟨0, 0, [], rfl, rfl, Nat.zero_le _, Nat.zero_le _, fun _ r hr => by simp at hr, Nat.le_refl _, World.ownsRow_lit (base := w7.heap.size) w7 #[] 0 (Nat.le_refl _) (by unfold maxLen; omega) rfl, (Below.refl _ _).alloc (Nat.le_refl _) _⟩
    case round =>
      obtain ⟨k, p, s, rfl, rfl, hk, hp, HS, hsl, hown, HBx⟩ := hrel
      obtain ⟨wo, hwo⟩ : ∃ wo, wo = wr := ⟨_, rfl⟩
      subst hwo
      obtain ⟨As, cs, rfl, _, _⟩ := (Sl.of_own hown).form
      have HO := hid hown
      clear hown
      by_cases hkn : k < n
      · obtain ⟨b, o, nm, lv, tx, sq, rfl, hbB, hx, g0, g1, g2, g3⟩ := rcells_at GL.out hkn
        have CC := hid (fun (W : World) (hW : Below w7.heap.size w7 W) => And.intro ((hW.cell (p := ⟨b, o + k * 4, none⟩) hbB).trans g0) (And.intro ((hW.cell (p := ⟨b, o + k * 4 + 1, none⟩) hbB).trans g1) (And.intro ((hW.cell (p := ⟨b, o + k * 4 + 2, none⟩) hbB).trans g2) ((hW.cell (p := ⟨b, o + k * 4 + 3, none⟩) hbB).trans g3))))
        have HX := hid hx
        have hk1 := hkk1.out k
        clear g0 g1 g2 g3 hx
        by_cases hz : 0 < z1
        · obtain ⟨c0, c1, c2', c3'⟩ := CC.out _ HBx.out
          have CH := hid (sampHas_c _ _ _ s tx wo (Sl.of_own HO.out))
          generalize hin : decide (tx.data.toList ∈ s) = fn at CH
          replace hin := hid hin
          go_wp2_with fail
          refine CH.out.mono ?_
          rintro e w9 ⟨rfl, rfl⟩
          cases fn with
          | true =>
            have HS2 := hid (show 0 < z1 → ∀ r ∈ l.take (k + 1), r.tx ∈ s from fun hz r hr => by
              rw [List.take_add_one, HX.out] at hr
              rcases List.mem_append.1 hr with hr | hr
              · exact HS.out hz r hr
              · simp at hr
                subst hr
                exact of_decide_eq_true hin.out)
            clear HS CH
            go_wp2_with fail
            go_roundw
            case rel => exact ⟨k + 1, p, s, by go_num, rfl, by omega, by omega, HS2, by omega, HO.out, HBx⟩
            case measure => simp [intOf]; omega
          | false =>
            have hfst := HG.out hz k _ HX.out (fun y hy he => by
              have h8 := HS.out hz y hy
              rw [he] at h8
              exact absurd h8 (of_decide_eq_false hin.out))
            obtain ⟨hkm, hdk⟩ := hfst
            have HDK := hid hdk
            have HS2 := hid (show 0 < z1 → ∀ r ∈ l.take (k + 1), r.tx ∈ s ++ [tx.data.toList] from fun hz r hr => by
              rw [List.take_add_one, HX.out] at hr
              rcases List.mem_append.1 hr with hr | hr
              · exact List.mem_append_left _ (HS.out hz r hr)
              · simp at hr
                subst hr
                exact List.mem_append_right _ (List.mem_singleton.2 rfl))
            clear HS CH hdk
            go_wp2_with (at_builtin; refine appText _ rfl (.tmp 84) (.tmp 90) rfl w7.heap.size _ s (by rfl) HO.out tx _ _ _ (by rfl) (by simp) (by omega) HBx.out.size ?_)
            intro v9 w9 ho9 hb9
            have HO9 := hid ho9
            have HB9 := hid (HBx.out.trans hb9)
            obtain ⟨A9, c9, rfl, _, _⟩ := (Sl.of_own ho9).form
            clear ho9 hb9 c0 c1 c2' c3' HO
            go_wp2_with fail
            go_loopw [10] (fun av wr => ∃ q : Nat, av = .int .i64 q ∧ q ≤ kk k ∧ Hid (Below w9.heap.size w9 wr)) (fun av _ => kk k + 1 - (intOf av).toNat)
            case atStart => exact ⟨p, rfl, hp, Below.refl _ _⟩
            case round =>
              obtain ⟨q, rfl, hq, HB9'⟩ := hrel
              have hqm : q < m := by omega
              have HBq := hid (HB9.out.trans (HB9'.out.mono HB9.out.size))
              obtain ⟨b2, o2, nm', lv', tx', sq', rfl, hb2, hx2, g0', g1', g2', g3'⟩ := rcells_at (GO.out.below HBq.out (Nat.le_refl _)) hqm
              obtain ⟨c0, c1, c2', c3'⟩ := CC.out _ HBq.out
              replace HB9 := HB9'
              have HX2 := hid hx2
              clear hx2
              have hne : (nm' ≠ nm ∨ lv' ≠ lv ∨ tx' ≠ tx ∨ sq' ≠ sq) → q < kk k := fun h => by
                by_cases e : q = kk k
                · exfalso
                  subst e
                  have h9 := Option.some.inj (HX2.out.symm.trans HDK.out)
                  simp only [Rec.mk.injEq, bytes_eq_iff] at h9
                  obtain ⟨e1, e2, e3, e4⟩ := h9
                  rcases h with h | h | h | h
                  · exact h e1
                  · exact h e2
                  · exact h e3
                  · exact h e4
                · omega
              by_cases e1 : nm' = nm
              · subst e1
                by_cases e2 : lv' = lv
                · subst e2
                  by_cases e3 : tx' = tx
                  · subst e3
                    by_cases e4 : sq' = sq
                    · subst e4
                      have q9 : ((q : Int) == (m : Int)) = false := by simp; omega
                      clear hne HX HX2 HDK
                      go_wp2_with fail
                      go_quiet (fail)
                      go_wp2_with fail
                      go_roundw
                      case rel => exact ⟨k + 1, q, _, by go_num, rfl, by omega, by omega, HS2, by simp; omega, by simpa using own_below HO9.out (below_dr HB9.out _), below_dr HBq.out _⟩
                      case measure => simp [intOf]; omega
                    · have hq2 := hne (.inr (.inr (.inr e4)))
                      have f4 : (sq' == sq) = false := by simpa using e4
                      clear HX
                      go_wp2_with fail
                      go_quiet (fail)
                      go_wp2_with fail
                      go_roundw
                      case rel => exact ⟨q + 1, by go_num, by omega, below_dr HB9.out _⟩
                      case measure => simp [intOf]; omega
                  · have hq2 := hne (.inr (.inr (.inl e3)))
                    have f3 := eq_false_of (fun h => e3 ((bytes_eq_iff _ _).1 h))
                    clear HX
                    go_wp2_with fail
                    go_quiet (fail)
                    go_wp2_with fail
                    go_roundw
                    case rel => exact ⟨q + 1, by go_num, by omega, below_dr HB9.out _⟩
                    case measure => simp [intOf]; omega
                · have hq2 := hne (.inr (.inl e2))
                  have f2 : (lv' == lv) = false := by simpa using e2
                  clear HX
                  go_wp2_with fail
                  go_quiet (fail)
                  go_wp2_with fail
                  go_roundw
                  case rel => exact ⟨q + 1, by go_num, by omega, below_dr HB9.out _⟩
                  case measure => simp [intOf]; omega
              · have hq2 := hne (.inl e1)
                have f1 := eq_false_of (fun h => e1 ((bytes_eq_iff _ _).1 h))
                clear HX
                go_wp2_with fail
                go_quiet (fail)
                go_wp2_with fail
                go_roundw
                case rel => exact ⟨q + 1, by go_num, by omega, below_dr HB9.out _⟩
                case measure => simp [intOf]; omega
        · have HS2 := hid (show 0 < z1 → ∀ r ∈ l.take (k + 1), r.tx ∈ s from fun hz9 => absurd hz9 hz)
          clear HS
          go_wp2_with fail
          go_roundw
          case rel => exact ⟨k + 1, p, s, by go_num, rfl, by omega, by omega, HS2, by omega, HO.out, HBx⟩
          case measure => simp [intOf]; omega
      · have CA := hid (equalRecords_c (.slice A6 n c6) (.slice A n c) n w7.heap.size l wo (GA.out.below HBx.out (Nat.le_refl _)) (GL.out.below HBx.out (Nat.le_refl _)) HBx.out.size)
        have CN := hid (fun (W : World) (hW : Below wo.heap.size wo W) => equalRecords_c (.slice A7 n c7) (.slice A n c) n w7.heap.size l W (GN.out.below (HBx.out.trans (hW.mono HBx.out.size)) (Nat.le_refl _)) (GL.out.below (HBx.out.trans (hW.mono HBx.out.size)) (Nat.le_refl _)) (HBx.out.trans (hW.mono HBx.out.size)).size)
        have HWo := hid (HW7.out.trans (HBx.out.mono HW7.out.size))
        clear HS HG HO GA GN GL GO
        go_wp2_with fail
        refine CA.out.mono ?_
        rintro e w8 ⟨rfl, hb⟩
        have HW8 := hid (HWo.out.trans (hb.mono HWo.out.size))
        have HWx := hid hb
        clear hb
        go_wp2_with fail
        refine (CN.out _ HWx.out).mono ?_
        rintro e w9 ⟨rfl, hb⟩
        have HW9 := hid (HW8.out.trans (hb.mono HW8.out.size))
        clear hb
        go_wp2_with fail
        go_ret
        exact ⟨ret_bool (by simp), HB.out.trans (HW9.out.mono HB.out.size)⟩
end Go.Proofs.Ytjliipnjifongaa
