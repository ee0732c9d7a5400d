/-
  Slices of slices ([]Field), told by their rows. By gen_nest.py.
-/
import Derived.Test.YtmadcocbncmpoaaNest
import Derived.Test.YtmadcocbncmpoaaKFlds
namespace Go.Proofs.Ytmadcocbncmpoaa
open Go.RowKit Nm
set_option linter.unusedSimpArgs false
set_option linter.unusedVariables false

abbrev FldssD := List (List Fld)
def FldssR (rs : List Row) (v : Value) (L : FldssD) : Prop := NestR 24 FldsR rs v L
def FldssIn (w : World) (B : Nat) (v : Value) (L : FldssD) : Prop := NestIn FldsIn w B v L ∧ L.length ≤ maxTxt
def FldssFit (L : FldssD) : Prop := L.length ≤ maxTxt ∧ ∀ l ∈ L, FldsFit l
def FldssM (rs : List Row) (v : Value) (k r : Nat) : Prop := NestM 24 FldsM rs v k r
section
variable {w w' : World} {B B' lo : Nat} {v : Value} {L : FldssD} {rs : List Row}
theorem FldssIn.below (h : FldssIn w B v L) (hb : Below B' w w') (hB : B ≤ B') : FldssIn w' B v L := ⟨h.1.below hb hB fun u l h => h.below hb hB, h.2⟩
theorem FldssIn.form (h : FldssIn w B v L) : ∃ A n c, v = .slice A n c := by obtain ⟨A, c, h1, _⟩ := h.1.form; exact ⟨A, _, c, h1⟩
theorem FldssR.form (h : FldssR rs v L) (hr : Rows w lo rs) : ∃ A n c, v = .slice A n c := NestR.form h hr
theorem FldssM.form {k r : Nat} (h : FldssM rs v k r) (hr : Rows w lo rs) : ∃ A n c, v = .slice A n c := NestM.form h hr
theorem FldssR.at_ (h : FldssR rs v L) (hr : Rows w lo rs) (hf : FldssFit L) : FldssIn w w.heap.size v L := ⟨NestR.at_ h hr fun rs u l hl h1 h2 => h1.at_ h2 (hf.2 l hl), hf.1⟩
theorem FldssFit.nil : FldssFit [] := ⟨by simp [maxTxt], by simp⟩
end
theorem Try.infoFldss : (Try.prog.info? 24).map (fun i => (i.zero, i.size, i.bytes)) = some (some (.slice none 0 0), 1, 24) := by kernel_rfl

set_option maxHeartbeats 4000000 in
set_option maxRecDepth 100000 in
theorem eqFldssX_c {rs rs' : List Row} {v v' : Value} {L : FldssD} {w : World} {lo lo' : Nat} (h : FldssR rs v L) (hr : Rows w lo rs) (h' : FldssR rs' v' L) (hr' : Rows w lo' rs') :
    Calls Try.prog 9 #[v, v'] w (BoolPost w true) := by
  have i1 := NestR.own_ h hr
  have i2 := NestR.own_ h' hr'
  obtain ⟨A1, k1, rfl, _, hm1⟩ := i1.form
  obtain ⟨A2, k2, rfl, _, hm2⟩ := i2.form
  unfold maxLen at hm1 hm2
  clear h hr h' hr'
  have HS := hid (And.intro i1 i2)
  generalize hn : L.length = n at *
  have b0 : ((n : Int) != (n : Int)) = false := by simp
  clear i1 i2
  go_enter Try.func9, Try.ntmps9
  go_wp2_with fail
  go_loopw [5] (fun iv wr => ∃ (i : Nat), iv = .int .i64 i ∧ i ≤ n ∧ Hid (Below w.heap.size w wr)) (fun iv _ => n - (intOf iv).toNat)
  case atStart => exact ⟨0, rfl, by omega, Below.refl _ _⟩
  case round =>
    obtain ⟨i, rfl, hi, HB⟩ := hrel
    by_cases hlt : i < n
    · obtain ⟨b, o, u, l, rfl, hbB, hx, g0, rs1, hr1, hR1⟩ := HS.out.1.elem hlt
      obtain ⟨b', o', u', l', rfl, hbB', hx', g0', rs2, hr2, hR2⟩ := HS.out.2.elem hlt
      have hll : l' = l := by rw [hx] at hx'; exact (Option.some.inj hx').symm
      subst hll
      obtain ⟨B1, m1, p1, rfl⟩ := hR1.form hr1
      obtain ⟨B2, m2, p2, rfl⟩ := hR2.form hr2
      have E := hid (fun (W : World) (hW : Below wr.heap.size wr W) => eqFldsX_c hR1 ((hr1.below HB.out).below hW) hR2 ((hr2.below HB.out).below hW))
      replace g0 := (HB.out.cell (p := ⟨b, o + i, none⟩) hbB).trans g0
      replace g0' := (HB.out.cell (p := ⟨b', o' + i, none⟩) hbB').trans g0'
      clear hx hx' hR1 hR2 hr1 hr2
      go_wp2_with fail
      go_region_with (go_at_call 8; refine (E.out _ (by first | exact Below.refl _ _ | exact (Below.refl _ _).drew | exact (Below.refl _ _).drew.drew)).mono ?_; rintro e w2 ⟨rfl, hb⟩)
      all_goals go_wp2_with fail
      all_goals
        go_roundw
        case rel => exact ⟨i + 1, by go_num, by omega, by first | exact HB.out.trans (hb.mono HB.out.size) | exact HB.out.drew.trans (hb.mono HB.out.size) | exact HB.out.drew.drew.trans (hb.mono HB.out.size)⟩
        case measure => simp [intOf]; omega
    · go_wp2_with fail
      go_ret
      exact ⟨rfl, HB.out⟩

set_option maxHeartbeats 4000000 in
set_option maxRecDepth 100000 in
theorem markFldssX_c {rs rest : List Row} {v : Value} {L : FldssD} {w : World} {lo k : Nat} (h : FldssR rs v L) (hR : Rows w lo (rs ++ rest)) (hlo : lo ≤ w.heap.size) (hd : FldssFit L) (hk : k ≤ 17179869184) :
    Calls Try.prog 10 #[v, .int .i64 k] w fun e w' => ∃ (r : Nat) (rs' : List Row), e = .returned (.int .i64 (r : Int)) ∧ FldssM rs' v k r ∧ Rows w' lo (rs' ++ rest) ∧ Below lo w w' ∧ r ≤ k + 8796093022208 := by
  obtain ⟨es, rfl, hl, hes⟩ := h
  obtain ⟨A, c, rfl, hnc, hcm⟩ := (Sl.of_own (nest_top hR.left)).form
  unfold maxLen at hcm
  have hd1 := hd.1
  unfold maxTxt at hd1
  generalize hnn : es.length = n at *
  have HL := hid (And.intro hnn (And.intro hl (And.intro hes hd.2)))
  have HR0 := hid hR
  clear hR hnn hl hes hd
  have hn1 : n ≤ 1048576 := by have := HL.out.2.1; omega
  go_enter Try.func10, Try.ntmps10
  go_wp2_with fail
  go_loopw [1, 5] (fun kv iv wr => ∃ (i m : Nat) (es1 : List Cell2), kv = .int .i64 (m : Int) ∧ iv = .int .i64 i ∧ i ≤ n ∧ m ≤ k + i * 8388608 ∧ Hid (es1.length = i ∧ heads es1 = (heads es).take i ∧ MC FldsM es1 k m) ∧ Hid (Rows wr lo (⟨24, 1, n, .slice A n c, heads es⟩ :: ((inner es1 ++ inner (es.drop i)) ++ rest))) ∧ Hid (Below lo w wr)) (fun _ iv _ => n - (intOf iv).toNat)
  case atStart =>
    refine ⟨0, k, [], rfl, rfl, Nat.zero_le _, by omega, ⟨rfl, rfl, rfl⟩, ?_, Below.refl _ _⟩
    have := HR0.out
    unfold nestRows at this
    rw [HL.out.1] at this
    exact this
  case round =>
    obtain ⟨i, m, es1, rfl, rfl, hi, hm, HE, HRx, HB⟩ := hrel
    by_cases hlt : i < n
    · obtain ⟨e, he⟩ : ∃ e, es[i]? = some e := ⟨_, List.getElem?_eq_getElem (by rw [HL.out.1]; exact hlt)⟩
      obtain ⟨l, hli⟩ : ∃ l, L[i]? = some l := ⟨_, List.getElem?_eq_getElem (by have := HL.out.2.1; omega)⟩
      have hRe := HL.out.2.2.1 i e l he hli
      have hFe := HL.out.2.2.2 l (List.mem_of_getElem? hli)
      have hX := HRx.out
      have htop := hX.head
      obtain ⟨g, rfl, hglt⟩ := own_some (show wr.ownsRow lo 24 1 (.slice A n c) n (heads es) from htop) (by omega)
      have c0 := (show wr.ownsRow lo 24 1 (.slice (some ⟨g, 0, none⟩) n c) n (heads es) from htop).cellAt i (by omega)
      rw [heads_at he] at c0
      rw [drop_at he, show inner (e :: es.drop (i + 1)) = e.2 ++ inner (es.drop (i + 1)) from by simp [inner]] at hX
      replace hX := hX.front_
      obtain ⟨u, rse⟩ := e
      obtain ⟨A', n', c', e'⟩ := hRe.form hX.left
      have e' : u = .slice A' n' c' := e'
      subst e'
      have hlw : lo ≤ wr.heap.size := Nat.le_trans hlo HB.out.size
      have C := hid (markFldsX_c (k := m) hRe hX hlw hFe (by omega))
      have HH := hid he
      clear hX htop hRe hFe he hli
      go_wp2_with fail
      refine (C.out).mono ?_
      rintro e w1 ⟨r, rs', rfl, hM, hR, hb, hr⟩
      have HM := hid hM
      have HR1 := hid hR.back_
      have HB1 := hid (HB.out.trans hb)
      clear hM hR hb c0
      go_wp2_with fail
      go_roundw
      case rel =>
        refine ⟨i + 1, r, es1 ++ [(.slice A' n' c', rs')], rfl, by go_num, by omega, by omega, ⟨by simp [HE.out.1], ?_, HE.out.2.2.snoc HM.out⟩, ?_, HB1.out⟩
        · rw [show heads (es1 ++ [((.slice A' n' c' : Value), rs')]) = heads es1 ++ [.slice A' n' c'] from by simp [heads], HE.out.2.1, List.take_add_one, heads_at HH.out]; rfl
        · rw [inner_append, show inner [((.slice A' n' c' : Value), rs')] = rs' from by simp [inner], List.append_assoc (inner es1)]; exact HR1.out
      case measure => simp [intOf]; omega
    · obtain rfl : i = n := by omega
      go_wp2_with fail
      go_ret
      refine ⟨m, nestRows 24 (.slice A i c) es1, rfl, ⟨es1, rfl, HE.out.2.2⟩, ?_, HB.out, by omega⟩
      have h7 := HRx.out
      have e8 := HE.out.2.1
      rw [List.take_of_length_le (by rw [heads_len, HL.out.1]; exact Nat.le_refl _)] at e8
      rw [List.drop_eq_nil_of_le (by rw [HL.out.1]; exact Nat.le_refl _), show inner ([] : List Cell2) = [] from rfl, List.append_nil] at h7
      unfold nestRows
      rw [HE.out.1, e8]
      exact h7

def FldssRaw (w : World) (B : Nat) (A : Option Addr) (n c : Nat) (L : FldssD) : Prop := NestIn (fun w B u l => ∃ A' n' c', u = .slice A' n' c' ∧ FldsRaw w B A' n' c' l) w B (.slice A n c) L
theorem FldssRaw.below {w w' : World} {B B' : Nat} {A : Option Addr} {n c : Nat} {L : FldssD} (h : FldssRaw w B A n c L) (hb : Below B' w w') (hB : B ≤ B') : FldssRaw w' B A n c L := NestIn.below h hb hB fun u l ⟨A', n', c', h1, h2⟩ => ⟨A', n', c', h1, h2.below hb hB⟩
theorem FldssRaw.count {w : World} {B : Nat} {A : Option Addr} {n c : Nat} {L : FldssD} (h : FldssRaw w B A n c L) : L.length = n := NestIn.count h

set_option maxHeartbeats 4000000 in
set_option maxRecDepth 100000 in
theorem szFldssY_c (A : Option Addr) (n c : Nat) (L : FldssD) (B : Nat) (left : Int) (w : World) (h : FldssRaw w B A n c L) (hB : B ≤ w.heap.size) (h0 : 0 ≤ left) (h1 : left ≤ 1048576) :
    Calls Try.prog 4 #[.slice A n c, .int .i64 left] w (SzPost left (FldssFit L) w) := by
  have hln := h.count
  obtain ⟨A', c', he, hnc, hcm⟩ := NestIn.form h
  injection he with he1 he9 he2
  clear he9
  subst he1 he2
  unfold maxLen at hcm
  rw [hln] at hnc
  have HV := hid (And.intro h hln)
  clear h hln
  by_cases hl : left - (n : Int) < 0
  · go_enter Try.func4, Try.ntmps4
    go_wp2_with fail
    go_ret
    exact ⟨_, rfl, Below.refl _ _, .inl (by omega)⟩
  go_enter Try.func4, Try.ntmps4
  go_wp2_with fail
  go_loopw [1, 5] (fun lv iv wr => ∃ (k : Nat) (q : Int), iv = .int .i64 k ∧ lv = .int .i64 q ∧ k ≤ n ∧ 0 ≤ q ∧ q ≤ left ∧ Hid (∀ x ∈ L.take k, FldsFit x) ∧ Hid (Below w.heap.size w wr)) (fun _ iv _ => n - (intOf iv).toNat)
  case atStart => exact ⟨0, _, rfl, rfl, by omega, by omega, by omega, by intro f hf; simp at hf, Below.refl _ _⟩
  case round =>
    obtain ⟨k, q, rfl, rfl, hk, hq0, hq1, HL, HB⟩ := hrel
    by_cases hlt : k < n
    · obtain ⟨b, o, u, l, rfl, hbB, hx, c0, A', n', c', rfl, hr⟩ := (HV.out.1.below HB.out hB).elem hlt
      have hcall := hid (szFldsY_c A' n' c' l B q wr hr (Nat.le_trans hB HB.out.size) hq0 (by omega))
      have HX := hid hx
      clear hx hr
      go_wp2_with fail
      refine hcall.out.mono ?_
      rintro e w1 ⟨r, rfl, hb, hr⟩
      have HB1 := hid (HB.out.trans (hb.mono HB.out.size))
      clear hb
      rcases hr with hr | ⟨hr0, hr1, hr2⟩
      · go_wp2_with fail
        go_ret
        exact ⟨_, rfl, HB1.out, .inl (by omega)⟩
      · have HR := hid hr2
        clear hr2
        go_wp2_with fail
        go_roundw
        case rel =>
          refine ⟨k + 1, r, by go_num, rfl, by omega, hr0, by omega, ?_, HB1.out⟩
          intro g hg
          rcases mem_take_succ' L k _ g HX.out hg with rfl | hg
          · exact HR.out
          · exact HL.out g hg
        case measure => simp [intOf]; omega
    · go_wp2_with fail
      go_ret
      refine ⟨_, rfl, HB.out, .inr ⟨hq0, hq1, by unfold maxTxt; have := HV.out.2; omega, ?_⟩⟩
      have := HL.out
      rwa [List.take_of_length_le (by have := HV.out.2; omega)] at this

set_option maxHeartbeats 4000000 in
set_option maxRecDepth 100000 in
theorem toFldssY_c (A : Option Addr) (n c : Nat) (L : FldssD) (B : Nat) (w : World) (h : FldssRaw w B A n c L) (hB : B ≤ w.heap.size) (hf : FldssFit L) :
    Calls Try.prog 6 #[.slice A n c] w fun e w' => ∃ v' rs, e = .returned v' ∧ FldssR rs v' L ∧ Rows w' w.heap.size rs ∧ Below w.heap.size w w' := by
  have hln := h.count
  obtain ⟨A', c', he, hnc, hcm⟩ := NestIn.form h
  injection he with he1 he9 he2
  clear he9
  subst he1 he2
  unfold maxLen at hcm
  rw [hln] at hnc
  have hn : n ≤ 1048576 := by have := hf.1; unfold maxTxt at this; omega
  obtain ⟨i0, hi, hz0, hz1, hz2⟩ := info_parts Try.infoFldss
  have HV := hid (And.intro h (And.intro hf hln))
  clear h hf hln
  go_enter Try.func6, Try.ntmps6
  go_wp2_with (at_make; refine wpList_make_full _ rfl _ _ 26 rfl w.heap.size 24 i0 _ 1 Try.underlying26 hi hz0 hz1 .i64 .i64 _ _ n rfl rfl rfl rfl (by rw [hz2]; omega) (by unfold maxLen; omega) (Nat.le_refl _) ?_)
  intro w1 hown hg1
  have H1 := hid (And.intro hown (And.intro (below_of_grown hg1 (Nat.le_refl _) (by simp)) (show w.heap.size < w1.heap.size from (hown.lt _ rfl).2)))
  clear hown hg1
  go_wp2_with fail
  go_loopw [4] (fun iv wr => ∃ (k : Nat) (xs : List Value) (es : List Cell2), iv = .int .i64 k ∧ k ≤ n ∧ wr.ownsRow w.heap.size 24 1 (.slice (some ⟨w.heap.size, 0, none⟩) n n) n xs ∧ Hid (es.length = k ∧ (∀ j, j < k → xs[j]? = (heads es)[j]?) ∧ (∀ (i : Nat) (e : Cell2) l, es[i]? = some e → L[i]? = some l → FldsR e.2 e.1 l) ∧ Rows wr (w.heap.size + 1) (inner es)) ∧ w.heap.size < wr.heap.size ∧ Hid (Below w.heap.size w wr)) (fun iv _ => n - (intOf iv).toNat)
  case atStart => exact ⟨0, _, [], rfl, by omega, H1.out.1, ⟨rfl, fun j hj => by omega, fun i e l h => by simp at h, Rows.nil _ _⟩, H1.out.2.2, H1.out.2.1⟩
  case round =>
    obtain ⟨k, xs, es, rfl, hk, hown, HX, hsz, HB⟩ := hrel
    by_cases hlt : k < n
    · obtain ⟨b, o, u, l, rfl, hbB, hx, c0, A', n', c', rfl, hr⟩ := (HV.out.1.below HB.out hB).elem hlt
      have hcall := hid (toFldsY_c A' n' c' l B wr hr (Nat.le_trans hB HB.out.size) (HV.out.2.1.2 l (List.mem_of_getElem? hx)))
      have HX2 := hid hx
      have HO := hid hown
      clear hx hr hown
      go_wp2_with fail
      refine hcall.out.mono ?_
      rintro e w2 ⟨v', rs', rfl, hRl, hrw, hb⟩
      obtain ⟨A6, n6, k6, rfl⟩ := hRl.form hrw
      have hown2 := own_below HO.out hb
      have hidx : k < n * 1 := by omega
      obtain ⟨u0, d0⟩ := own_cell hown2 (j := k) hidx
      have g0 := hown2.frozenAt k
      have R := hid (hown2.stored k (.slice A6 n6 k6)).1
      have HRW := hid (HX.out.2.2.2.more hb hrw (by omega))
      have HRl := hid hRl
      have HB2 := hid (HB.out.trans (hb.mono HB.out.size))
      have hsz2 : w.heap.size < w2.heap.size := Nat.lt_of_lt_of_le hsz hb.size
      have hxl := hown2.1
      clear hown2 hb c0 hrw hRl
      go_wp2_with fail
      go_roundw
      case rel =>
        refine ⟨k + 1, _, es ++ [(.slice A6 n6 k6, rs')], by go_num, by omega, R.out, ⟨by simp [HX.out.1], ?_, ?_, ?_⟩, by simpa using hsz2, ?_⟩
        · intro j hj
          rw [show heads (es ++ [((.slice A6 n6 k6 : Value), rs')]) = heads es ++ [.slice A6 n6 k6] from by simp [heads]]
          by_cases hjk : j = k
          · subst hjk
            rw [List.getElem?_set_self (by omega), List.getElem?_append_right (by rw [heads_len, HX.out.1]; exact Nat.le_refl _), heads_len, HX.out.1, Nat.sub_self]; rfl
          · rw [List.getElem?_set_ne (by omega), List.getElem?_append_left (by rw [heads_len, HX.out.1]; omega)]
            exact HX.out.2.1 j (by omega)
        · intro i e l2 he hl2
          by_cases hik : i < k
          · rw [List.getElem?_append_left (by rw [HX.out.1]; exact hik)] at he
            exact HX.out.2.2.1 i e l2 he hl2
          · have hi3 : i = k := by
              have := (List.getElem?_eq_some_iff.1 he).1
              simp [HX.out.1] at this; omega
            subst hi3
            rw [List.getElem?_append_right (by rw [HX.out.1]; exact Nat.le_refl _), HX.out.1, Nat.sub_self] at he
            rw [HX2.out] at hl2
            cases he; cases hl2
            exact HRl.out
        · rw [inner_append, show inner [((.slice A6 n6 k6 : Value), rs')] = rs' from by simp [inner]]
          refine Rows.low ?_ (by omega)
          exact HRW.out
        · refine Below.setCell ?_ (by simp) _
          exact HB2.out
      case measure => simp [intOf]; omega
    · have HO := hid hown
      clear hown
      go_wp2_with fail
      go_ret
      have hkn : k = n := by omega
      subst hkn
      have e : xs = heads es := by
        have h1 := HO.out.1
        apply List.ext_getElem?
        intro j
        by_cases hj : j < k
        · exact HX.out.2.1 j hj
        · rw [List.getElem?_eq_none (by omega), List.getElem?_eq_none (by rw [heads_len, HX.out.1]; omega)]
      have ho := HO.out
      rw [e] at ho
      refine ⟨_, nestRows 24 _ es, rfl, ⟨es, rfl, by rw [HX.out.1, HV.out.2.2], HX.out.2.2.1⟩, ?_, HB.out⟩
      unfold nestRows
      rw [HX.out.1]
      exact Rows.ahead ho HX.out.2.2.2 (Nat.le_refl _)
end Go.Proofs.Ytmadcocbncmpoaa
