/-
  Slices of slices ([]Record), told by their rows. By gen_nest.py.
-/
import Derived.Test.YtfjpfdmlcgkfeaaNest
import Derived.Test.YtfjpfdmlcgkfeaaKRecs
namespace Go.Proofs.Ytfjpfdmlcgkfeaa
open Go.RowKit Nm
set_option linter.unusedSimpArgs false
set_option linter.unusedVariables false

abbrev RecssD := List (List Rec)
def RecssR (rs : List Row) (v : Value) (L : RecssD) : Prop := NestR 27 RecsR rs v L
def RecssIn (w : World) (B : Nat) (v : Value) (L : RecssD) : Prop := NestIn RecsIn w B v L ∧ L.length ≤ maxTxt
def RecssFit (L : RecssD) : Prop := L.length ≤ maxTxt ∧ ∀ l ∈ L, RecsFit l
def RecssM (rs : List Row) (v : Value) (k r : Nat) : Prop := NestM 27 RecsM rs v k r
section
variable {w w' : World} {B B' lo : Nat} {v : Value} {L : RecssD} {rs : List Row}
theorem RecssIn.below (h : RecssIn w B v L) (hb : Below B' w w') (hB : B ≤ B') : RecssIn w' B v L := ⟨h.1.below hb hB fun u l h => h.below hb hB, h.2⟩
theorem RecssIn.form (h : RecssIn w B v L) : ∃ A n c, v = .slice A n c := by obtain ⟨A, c, h1, _⟩ := h.1.form; exact ⟨A, _, c, h1⟩
theorem RecssR.form (h : RecssR rs v L) (hr : Rows w lo rs) : ∃ A n c, v = .slice A n c := NestR.form h hr
theorem RecssM.form {k r : Nat} (h : RecssM rs v k r) (hr : Rows w lo rs) : ∃ A n c, v = .slice A n c := NestM.form h hr
theorem RecssR.at_ (h : RecssR rs v L) (hr : Rows w lo rs) (hf : RecssFit L) : RecssIn w w.heap.size v L := ⟨NestR.at_ h hr fun rs u l hl h1 h2 => h1.at_ h2 (hf.2 l hl), hf.1⟩
theorem RecssFit.nil : RecssFit [] := ⟨by simp [maxTxt], by simp⟩
end
theorem Try.infoRecss : (Try.prog.info? 27).map (fun i => (i.zero, i.size, i.bytes)) = some (some (.slice none 0 0), 1, 24) := by kernel_rfl

set_option maxHeartbeats 4000000 in
set_option maxRecDepth 100000 in
theorem eqRecssX_c {rs rs' : List Row} {v v' : Value} {L : RecssD} {w : World} {lo lo' : Nat} (h : RecssR rs v L) (hr : Rows w lo rs) (h' : RecssR rs' v' L) (hr' : Rows w lo' rs') :
    Calls Try.prog 12 #[v, v'] w (BoolPost w true) := by
  have i1 := NestR.own_ h hr
  have i2 := NestR.own_ h' hr'
  obtain ⟨A1, k1, rfl, _, hm1⟩ := i1.form
  obtain ⟨A2, k2, rfl, _, hm2⟩ := i2.form
  unfold maxLen at hm1 hm2
  clear h hr h' hr'
  have HS := hid (And.intro i1 i2)
  generalize hn : L.length = n at *
  have b0 : ((n : Int) != (n : Int)) = false := by simp
  clear i1 i2
  go_enter Try.func12, Try.ntmps12
  go_wp2_with fail
  go_loopw [5] (fun iv wr => ∃ (i : Nat), iv = .int .i64 i ∧ i ≤ n ∧ Hid (Below w.heap.size w wr)) (fun iv _ => n - (intOf iv).toNat)
  case atStart => exact ⟨0, rfl, by omega, Below.refl _ _⟩
  case round =>
    obtain ⟨i, rfl, hi, HB⟩ := hrel
    by_cases hlt : i < n
    · obtain ⟨b, o, u, l, rfl, hbB, hx, g0, rs1, hr1, hR1⟩ := HS.out.1.elem hlt
      obtain ⟨b', o', u', l', rfl, hbB', hx', g0', rs2, hr2, hR2⟩ := HS.out.2.elem hlt
      have hll : l' = l := by rw [hx] at hx'; exact (Option.some.inj hx').symm
      subst hll
      obtain ⟨B1, m1, p1, rfl⟩ := hR1.form hr1
      obtain ⟨B2, m2, p2, rfl⟩ := hR2.form hr2
      have E := hid (fun (W : World) (hW : Below wr.heap.size wr W) => eqRecsX_c hR1 ((hr1.below HB.out).below hW) hR2 ((hr2.below HB.out).below hW))
      replace g0 := (HB.out.cell (p := ⟨b, o + i, none⟩) hbB).trans g0
      replace g0' := (HB.out.cell (p := ⟨b', o' + i, none⟩) hbB').trans g0'
      clear hx hx' hR1 hR2 hr1 hr2
      go_wp2_with fail
      go_region_with (go_at_call 13; refine (E.out _ (by first | exact Below.refl _ _ | exact (Below.refl _ _).drew | exact (Below.refl _ _).drew.drew)).mono ?_; rintro e w2 ⟨rfl, hb⟩)
      all_goals go_wp2_with fail
      all_goals
        go_roundw
        case rel => exact ⟨i + 1, by go_num, by omega, by first | exact HB.out.trans (hb.mono HB.out.size) | exact HB.out.drew.trans (hb.mono HB.out.size) | exact HB.out.drew.drew.trans (hb.mono HB.out.size)⟩
        case measure => simp [intOf]; omega
    · go_wp2_with fail
      go_ret
      exact ⟨rfl, HB.out⟩

set_option maxHeartbeats 4000000 in
set_option maxRecDepth 100000 in
theorem markRecssX_c {rs rest : List Row} {v : Value} {L : RecssD} {w : World} {lo k : Nat} (h : RecssR rs v L) (hR : Rows w lo (rs ++ rest)) (hlo : lo ≤ w.heap.size) (hd : RecssFit L) (hk : k ≤ 17179869184) :
    Calls Try.prog 16 #[v, .int .i64 k] w fun e w' => ∃ (r : Nat) (rs' : List Row), e = .returned (.int .i64 (r : Int)) ∧ RecssM rs' v k r ∧ Rows w' lo (rs' ++ rest) ∧ Below lo w w' ∧ r ≤ k + 8796093022208 := by
  obtain ⟨es, rfl, hl, hes⟩ := h
  obtain ⟨A, c, rfl, hnc, hcm⟩ := (Sl.of_own (nest_top hR.left)).form
  unfold maxLen at hcm
  have hd1 := hd.1
  unfold maxTxt at hd1
  generalize hnn : es.length = n at *
  have HL := hid (And.intro hnn (And.intro hl (And.intro hes hd.2)))
  have HR0 := hid hR
  clear hR hnn hl hes hd
  have hn1 : n ≤ 1048576 := by have := HL.out.2.1; omega
  go_enter Try.func16, Try.ntmps16
  go_wp2_with fail
  go_loopw [1, 5] (fun kv iv wr => ∃ (i m : Nat) (es1 : List Cell2), kv = .int .i64 (m : Int) ∧ iv = .int .i64 i ∧ i ≤ n ∧ m ≤ k + i * 8388608 ∧ Hid (es1.length = i ∧ heads es1 = (heads es).take i ∧ MC RecsM es1 k m) ∧ Hid (Rows wr lo (⟨27, 1, n, .slice A n c, heads es⟩ :: ((inner es1 ++ inner (es.drop i)) ++ rest))) ∧ Hid (Below lo w wr)) (fun _ iv _ => n - (intOf iv).toNat)
  case atStart =>
    refine ⟨0, k, [], rfl, rfl, Nat.zero_le _, by omega, ⟨rfl, rfl, rfl⟩, ?_, Below.refl _ _⟩
    have := HR0.out
    unfold nestRows at this
    rw [HL.out.1] at this
    exact this
  case round =>
    obtain ⟨i, m, es1, rfl, rfl, hi, hm, HE, HRx, HB⟩ := hrel
    by_cases hlt : i < n
    · obtain ⟨e, he⟩ : ∃ e, es[i]? = some e := ⟨_, List.getElem?_eq_getElem (by rw [HL.out.1]; exact hlt)⟩
      obtain ⟨l, hli⟩ : ∃ l, L[i]? = some l := ⟨_, List.getElem?_eq_getElem (by have := HL.out.2.1; omega)⟩
      have hRe := HL.out.2.2.1 i e l he hli
      have hFe := HL.out.2.2.2 l (List.mem_of_getElem? hli)
      have hX := HRx.out
      have htop := hX.head
      obtain ⟨g, rfl, hglt⟩ := own_some (show wr.ownsRow lo 27 1 (.slice A n c) n (heads es) from htop) (by omega)
      have c0 := (show wr.ownsRow lo 27 1 (.slice (some ⟨g, 0, none⟩) n c) n (heads es) from htop).cellAt i (by omega)
      rw [heads_at he] at c0
      rw [drop_at he, show inner (e :: es.drop (i + 1)) = e.2 ++ inner (es.drop (i + 1)) from by simp [inner]] at hX
      replace hX := hX.front_
      obtain ⟨u, rse⟩ := e
      obtain ⟨A', n', c', e'⟩ := hRe.form hX.left
      have e' : u = .slice A' n' c' := e'
      subst e'
      have hlw : lo ≤ wr.heap.size := Nat.le_trans hlo HB.out.size
      have C := hid (markRecsX_c (k := m) hRe hX hlw hFe (by omega))
      have HH := hid he
      clear hX htop hRe hFe he hli
      go_wp2_with fail
      refine (C.out).mono ?_
      rintro e w1 ⟨r, rs', rfl, hM, hR, hb, hr⟩
      have HM := hid hM
      have HR1 := hid hR.back_
      have HB1 := hid (HB.out.trans hb)
      clear hM hR hb c0
      go_wp2_with fail
      go_roundw
      case rel =>
        refine ⟨i + 1, r, es1 ++ [(.slice A' n' c', rs')], rfl, by go_num, by omega, by omega, ⟨by simp [HE.out.1], ?_, HE.out.2.2.snoc HM.out⟩, ?_, HB1.out⟩
        · rw [show heads (es1 ++ [((.slice A' n' c' : Value), rs')]) = heads es1 ++ [.slice A' n' c'] from by simp [heads], HE.out.2.1, List.take_add_one, heads_at HH.out]; rfl
        · rw [inner_append, show inner [((.slice A' n' c' : Value), rs')] = rs' from by simp [inner], List.append_assoc (inner es1)]; exact HR1.out
      case measure => simp [intOf]; omega
    · obtain rfl : i = n := by omega
      go_wp2_with fail
      go_ret
      refine ⟨m, nestRows 27 (.slice A i c) es1, rfl, ⟨es1, rfl, HE.out.2.2⟩, ?_, HB.out, by omega⟩
      have h7 := HRx.out
      have e8 := HE.out.2.1
      rw [List.take_of_length_le (by rw [heads_len, HL.out.1]; exact Nat.le_refl _)] at e8
      rw [List.drop_eq_nil_of_le (by rw [HL.out.1]; exact Nat.le_refl _), show inner ([] : List Cell2) = [] from rfl, List.append_nil] at h7
      unfold nestRows
      rw [HE.out.1, e8]
      exact h7

set_option maxHeartbeats 4000000 in
set_option maxRecDepth 100000 in
theorem heldRecssX_c {rs : List Row} {v : Value} {k r lo : Nat} {w : World} (h : RecssM rs v k r) (hR : Rows w lo rs) :
    Calls Try.prog 18 #[v, .int .i64 k] w fun e w' => e = .returned (.int .i64 (r : Int)) ∧ Below w.heap.size w w' := by
  obtain ⟨es, rfl, hMC⟩ := h
  obtain ⟨A, c, rfl, hnc, hcm⟩ := (Sl.of_own (nest_top hR)).form
  unfold maxLen at hcm
  generalize hnn : es.length = n at *
  have HL := hid (And.intro hnn (And.intro hMC hR))
  clear hR hMC hnn
  go_enter Try.func18, Try.ntmps18
  go_wp2_with fail
  go_loopw [1, 5] (fun kv iv wr => ∃ (i m : Nat), kv = .int .i64 (m : Int) ∧ iv = .int .i64 i ∧ i ≤ n ∧ Hid (MC RecsM (es.drop i) m r) ∧ Hid (Below w.heap.size w wr)) (fun _ iv _ => n - (intOf iv).toNat)
  case atStart => exact ⟨0, k, rfl, rfl, Nat.zero_le _, HL.out.2.1, Below.refl _ _⟩
  case round =>
    obtain ⟨i, m, rfl, rfl, hi, HM, HB⟩ := hrel
    by_cases hlt : i < n
    · obtain ⟨e, he⟩ : ∃ e, es[i]? = some e := ⟨_, List.getElem?_eq_getElem (by rw [HL.out.1]; exact hlt)⟩
      have hmc := HM.out
      rw [drop_at he] at hmc
      obtain ⟨m2, hM1, hM2⟩ := hmc
      have hX := HL.out.2.2.below HB.out
      have htop := nest_top hX
      rw [HL.out.1] at htop
      obtain ⟨g, rfl, hglt⟩ := own_some htop (by omega)
      have c0 := htop.cellAt i (by omega)
      rw [heads_at he] at c0
      have hsub := nest_sub hX (List.mem_of_getElem? he)
      obtain ⟨u, rse⟩ := e
      obtain ⟨A', n', c', e'⟩ := hM1.form hsub
      have e' : u = .slice A' n' c' := e'
      subst e'
      have C := hid (heldRecsX_c hM1 hsub)
      have HM2 := hid hM2
      clear hX htop he hM1 hM2 hsub
      go_wp2_with fail
      refine (C.out).mono ?_
      rintro e w1 ⟨rfl, hb⟩
      have HB1 := hid (HB.out.trans (hb.mono HB.out.size))
      clear hb c0
      go_wp2_with fail
      go_roundw
      case rel => exact ⟨i + 1, m2, rfl, by go_num, by omega, HM2.out, HB1.out⟩
      case measure => simp [intOf]; omega
    · have hmc := HM.out
      rw [List.drop_eq_nil_of_le (by rw [HL.out.1]; omega)] at hmc
      have hmc : m = r := hmc
      subst hmc
      go_wp2_with fail
      go_ret
      exact ⟨rfl, HB.out⟩
end Go.Proofs.Ytfjpfdmlcgkfeaa
