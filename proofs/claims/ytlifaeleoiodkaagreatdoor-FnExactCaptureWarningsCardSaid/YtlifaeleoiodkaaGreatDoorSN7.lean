/-
  RECORDS SENT: the model's send. By gen_sn7.py.
-/
import Derived.Test.YtlifaeleoiodkaaGreatDoorSNM
import Derived.Deep.RegionHeld3
import Derived.BigQuiet
import Derived.Deep.MidRow
import Derived.Deep.DeepCutAuto
namespace Go.Proofs.YtlifaeleoiodkaaGreatDoor
open Go.RowKit Go.Proofs.YtlifaeleoiodkaaGreatDoor.Nm
set_option linter.unusedSimpArgs false
set_option linter.unusedVariables false

theorem below_setCellsX {B : Nat} {w : World} (b : Nat) (hb : B ≤ b) : ∀ (vs : List Value) (o : Nat) (w' : World), Below B w w' → Below B w (w'.setCells b o vs)
  | [], _, _, h => h
  | v :: r, o, w', h => below_setCellsX b hb r (o + 1) _ (h.setCell (p := ⟨b, o, none⟩) hb v)
theorem Blk.thereX {w : World} {b : Nat} {cs : List Value} (h : Blk w b cs) : w.there b 0 cs.length := fun j hj => by
  have := h.2 j cs[j] (List.getElem?_eq_getElem hj)
  rw [Nat.zero_add]
  exact ⟨by rw [this.1]; rfl, this.2⟩
theorem size_setCellsX (b : Nat) : ∀ (vs : List Value) (o : Nat) (w : World), (w.setCells b o vs).heap.size = w.heap.size
  | [], _, _ => rfl
  | v :: r, o, w => by rw [World.setCells, size_setCellsX b r]; simp
theorem Blk.storeX {w : World} {b : Nat} {cs vs : List Value} (h : Blk w b cs) (hl : cs.length = vs.length) : Blk (w.setCells b 0 vs) b vs := by
  have ht := h.thereX
  rw [hl] at ht
  refine ⟨by rw [size_setCellsX]; exact h.1, fun j u hu => ⟨?_, ?_⟩⟩
  · have := World.rangeAt_setCells_same w b 0 vs ht j u hu
    rwa [Nat.zero_add] at this
  · rw [World.frozen?_setCells]
    have hj := (List.getElem?_eq_some_iff.1 hu).1
    have := (ht j hj).2
    rwa [Nat.zero_add] at this
theorem own_keptX {w w' : World} {base n sz b : Nat} {e : TypeId} {v : Value} {xs : List Value} (h : w.ownsRow base e sz v n xs) (hg : w.grownBy w' (some b)) (hne : ∀ z, v.ownBlock = some z → z ≠ b) : w'.ownsRow base e sz v n xs :=
  h.kept hg (by
    cases hq : v.ownBlock with
    | none => exact .inl rfl
    | some g => right; intro e; cases e; exact hne _ hq rfl)
theorem bytes_ext' {a b : ByteArray} (h : a.data.toList = b.data.toList) : a = b := by
  cases a; cases b; simp only at h; congr 1; exact Array.toList_inj.1 h
theorem Tryz.sizeHandlerX : (Tryz.prog.info? 125).map (·.size) = some 3 := by kernel_rfl
/-- append of one Sent as a run, in a region that has drawn its order -/
theorem runSent (w : World) (base : Nat) (v : Value) (l : List Snt) (hown : w.ownsRow base 83 6 v l.length (l.flatMap sncells)) (lg hd nm tx : ByteArray) (lv sq : Int) (hl : l.length ≤ 1048576) (hbase : base ≤ w.heap.size) :
    ∃ v' w', (Builtin.append_ #[31, 31] 31 #[v, .slice (some ⟨w.heap.size, 0, none⟩) 1 1]).run Tryz.prog (w.alloc (.cells #[.string lg, .string hd, .string nm, .int .i64 lv, .string tx, .int .i64 sq] 83)).drew = .ok v' w' ∧ w'.ownsRow base 83 6 v' (l ++ [(⟨lg.data.toList, hd.data.toList, ⟨nm.data.toList, lv, tx.data.toList, sq⟩⟩ : Snt)]).length ((l ++ [(⟨lg.data.toList, hd.data.toList, ⟨nm.data.toList, lv, tx.data.toList, sq⟩⟩ : Snt)]).flatMap sncells) ∧ w.grownBy w' v.ownBlock ∧ (v'.ownBlock = v.ownBlock ∨ v'.ownBlock = some (w.heap.size + 1)) := by
  obtain ⟨i0, hi, hz0, hz1, hz2⟩ := info_parts Tryz.infoSent
  obtain ⟨v', w', h1, h2, h3, h4⟩ := run_app1D (P := Tryz.prog) w 31 base 83 i0 _ 6 80 Tryz.underlying31 hi hz0 hz1 hz2 rfl (by decide) v l.length _ hown [.string lg, .string hd, .string nm, .int .i64 lv, .string tx, .int .i64 sq] 83 rfl (List.all_eq_true.1 rfl) (by unfold maxLen; omega) (by omega) hbase
  exact ⟨v', w', h1, by simpa [sncells, txt_data] using h2, h3, h4⟩
theorem Fs.below' {w w' : World} {B B' n : Nat} {v : Value} {l : List Flt} (h : Fs w B n v l) (hb : Below B' w w') (hB : B ≤ B') : Fs w' B n v l := ⟨h.1.below hb hB, h.2⟩
theorem Fs.more' {w : World} {B B' n : Nat} {v : Value} {l : List Flt} (h : Fs w B n v l) (hB : B ≤ B') : Fs w B' n v l := ⟨h.1.more hB, h.2⟩
theorem filtersOk_all {l : List Flt} (h : filtersOk l = true) : l.all fltOk = true := by
  unfold filtersOk at h; simp only [Bool.and_eq_true] at h; exact h.1
theorem Tryz.sizeRecordX : (Tryz.prog.info? 61).map (·.size) = some 4 := by kernel_rfl
theorem tree_lv {L : List Lgr} {H : List Hnd} {q : Int} (h : treeOk L H q = true) : ∀ l ∈ L, 0 ≤ l.lv := fun l hl => ((tree_names h).2.2.2.2.2 l hl).1

set_option maxHeartbeats 8000000 in
set_option maxRecDepth 100000 in
theorem specSend_c {w : World} {B : Nat} {v : Value} {L : List Lgr} {H : List Hnd} {q : Int} (nm tx : ByteArray) (lv sq : Int) (h : TreeIn w B v L H q) (hB : B ≤ w.heap.size) (hz : treeOk L H q = true) (hr : recOk ⟨nm.data.toList, lv, tx.data.toList, sq⟩ = true) (hnm : nm.size ≤ 1048576) (htx : tx.size ≤ 1048576) :
    Calls Tryz.prog 36 #[v, .agg #[.string nm, .int .i64 lv, .string tx, .int .i64 sq]] w (RowPost w 83 6 (sendX L H q ⟨nm.data.toList, lv, tx.data.toList, sq⟩).length ((sendX L H q ⟨nm.data.toList, lv, tx.data.toList, sq⟩).flatMap sncells)) := by
  obtain ⟨b, o, n1, k1, A2, n2, k2, ls, rfl, hl, hL, hN, hn, hn8, hn1, hbB⟩ := h.opened hz
  obtain ⟨h0, hnd0, hnmm, hlen, _⟩ := tree_ns hz
  rw [← hn] at hlen
  obtain ⟨hs, hh, hH⟩ := h.hands
  obtain ⟨hnd, hnl, hn6⟩ := tree_hnds hz
  obtain ⟨h1, h2, hnk⟩ := recOk_rng hr
  have CE := fun (W : World) (hW : Below w.heap.size w W) => specEnabled_c (A2 := A2) (n2 := n2) (k2 := k2) q nm lv (hl.below hW hB) hL hN hlen hn8 (Nat.le_trans hB hW.size) hbB (by unfold maxLen; omega) h0 hnd0 hnmm (tree_lv hz)
  have CO := hid (fun (W : World) (hW : Below w.heap.size w W) => specOwnFilters_c (A2 := A2) (n2 := n2) (k2 := k2) q nm (hl.below hW hB) hL hN hlen (Nat.le_trans hB hW.size) hbB h0 hnd0)
  have CS := hid (fun (W : World) (hW : Below w.heap.size w W) => specSpots_c (A2 := A2) (n2 := n2) (k2 := k2) H q nm (hl.below hW hB) hL hN hn (Nat.le_trans hB hW.size) hbB hz (by unfold maxTxt; omega))
  have CF := fun (Aq : Option Addr) (fq cq : Nat) (W : World) (hF : Fs W W.heap.size fq (.slice Aq fq cq) (ownF L nm.data.toList)) => specFiltered_c (.slice Aq fq cq) fq W.heap.size (ownF L nm.data.toList) nm tx lv sq W hF (Nat.le_refl _) (filtersOk_all (own_ok hz _)) hnm htx h1 h2
  have AT := hid (fun (s : ByteArray) (W : World) (hW : Below w.heap.size w W) => handlerAt_c (.slice A2 n2 k2) n2 B hs s W (hh.below hW hB))
  have HB0 := hid (show Below w.heap.size w (((w.alloc (.cells #[.slice (some ⟨b, o, none⟩) n1 k1, .slice A2 n2 k2, .int .i64 q] 36)).alloc (.cells #[.string nm, .int .i64 lv, .string tx, .int .i64 sq] 61)).alloc (.cells #[] 83)) by go_grown)
  have HT0 := hid (((Blk.new w #[.slice (some ⟨b, o, none⟩) n1 k1, .slice A2 n2 k2, .int .i64 q] 36).alloc (.cells #[.string nm, .int .i64 lv, .string tx, .int .i64 sq] 61)).alloc (.cells #[] 83))
  have HK0 := hid ((Blk.new (w.alloc (.cells #[.slice (some ⟨b, o, none⟩) n1 k1, .slice A2 n2 k2, .int .i64 q] 36)) #[.string nm, .int .i64 lv, .string tx, .int .i64 sq] 61).alloc (.cells #[] 83))
  simp only [World.size_alloc] at HK0
  have HO0 := hid (show (((w.alloc (.cells #[.slice (some ⟨b, o, none⟩) n1 k1, .slice A2 n2 k2, .int .i64 q] 36)).alloc (.cells #[.string nm, .int .i64 lv, .string tx, .int .i64 sq] 61)).alloc (.cells #[] 83)).ownsRow (w.heap.size + 1 + 1) 83 6 (.slice (some ⟨w.heap.size + 1 + 1, 0, none⟩) 0 0) 0 [] by
    have := World.ownsRow_lit (e := 83) (size := 6) ((w.alloc (.cells #[.slice (some ⟨b, o, none⟩) n1 k1, .slice A2 n2 k2, .int .i64 q] 36)).alloc (.cells #[.string nm, .int .i64 lv, .string tx, .int .i64 sq] 61)) #[] 0 (Nat.le_refl _) (by unfold maxLen; omega) rfl
    simpa using this)
  have hld := hid (fun (s : Spt) (hs : s ∈ spotsI L (pathN (nsOf L) nm.data.toList)) => spots_has hz _ s hs)
  have HFO := hid (fun x => hOf_ok hz x)
  have HSL := hid (spotsI_max hz hnk)
  have HHH := hid (And.intro hh (And.intro hH (And.intro hnd hnl)))
  have HR := hid hr
  have HZ := hid hz
  have HBB := hid hB
  cases hen : enabledT L q nm.data.toList lv with
  | false =>
    rw [hen] at CE
    replace CE := hid CE
    have HE := hid (sendX_bad (H := H) (r := ⟨nm.data.toList, lv, tx.data.toList, sq⟩) (ent_dis (tx := tx.data.toList) hen))
    clear h hl hL hN hn h0 hnd0 hnmm hlen hh hH hnd hnl hn6 hz hr hen hnk CF
    go_enter Tryz.func36, Tryz.ntmps36
    go_wp2_with fail
    refine (CE.out _ HB0.out).mono ?_
    rintro e w1 ⟨rfl, hb⟩
    have HB1 := hid (HB0.out.trans (hb.mono HB0.out.size))
    have HO1 := hid (own_below HO0.out hb)
    clear hb
    go_wp2_with fail
    go_ret
    exact ⟨_, rfl, by rw [HE.out]; exact own_base HO1.out (by omega), HB1.out⟩
  | true =>
    rw [hen] at CE
    replace CE := hid CE
    obtain ⟨p1, p2, p3⟩ := en_parts hen
    cases hfl : filtL nm.data.toList tx.data.toList (ownF L nm.data.toList) lv with
    | none =>
      rw [hfl] at CF
      have CF := hid (fun (Aq : Option Addr) (fq cq : Nat) (W : World) (hF : Fs W W.heap.size fq (.slice Aq fq cq) (ownF L nm.data.toList)) => (show Calls _ _ _ _ (fun e w' => e = .returned (.tuple #[.agg #[.string ⟨#[]⟩, .int .i64 0, .string ⟨#[]⟩, .int .i64 0], .bool false]) ∧ Below W.heap.size W w') from CF Aq fq cq W hF))
      have HE := hid (sendX_bad (H := H) (r := ⟨nm.data.toList, lv, tx.data.toList, sq⟩) (show (entX L q nm.data.toList tx.data.toList lv).1 ≠ 0 by rw [ent_filter p1 p2 p3 hfl]; show (4 : Int) ≠ 0; decide))
      clear h hl hL hN hn h0 hnd0 hnmm hlen hh hH hnd hnl hn6 hz hr hen hnk hfl p1 p2 p3
      go_enter Tryz.func36, Tryz.ntmps36
      go_wp2_with fail
      refine (CE.out _ HB0.out).mono ?_
      rintro e w1 ⟨rfl, hb⟩
      have HB1 := hid (HB0.out.trans (hb.mono HB0.out.size))
      have HT1 := hid (HT0.out.to hb)
      have HK1 := hid (HK0.out.to hb)
      have HO1 := hid (own_below HO0.out hb)
      have hw1 : w.heap.size + 1 < w1.heap.size := HK1.out.1
      clear hb
      have d0 := (HK1.out.2 0 _ rfl).1
      go_wp2_with fail
      go_cut [6, 7] from 22 (fun s6 s7 wc => ∃ bx, s6 = .pointer (some ⟨bx, 0, none⟩) ∧ s7 = .bool false ∧ w1.heap.size ≤ bx ∧ Hid (Blk wc bx [.string ⟨#[]⟩, .int .i64 0, .string ⟨#[]⟩, .int .i64 0]) ∧ Hid (Below w1.heap.size w1 wc))
      case first =>
        have HR0 := hid ((Below.refl w1.heap.size w1).drew)
        have SF := hid (fun (W : World) (hR : Below w1.heap.size w1 W) => (show (fun w' : World => w'.cell? ⟨w.heap.size, 0, none⟩ = some (.slice (some ⟨b, o, none⟩) n1 k1) ∧ w'.cell? ⟨w.heap.size, 1, none⟩ = some (.slice A2 n2 k2) ∧ w'.cell? ⟨w.heap.size, 2, none⟩ = some (.int .i64 q) ∧ w'.cell? ⟨w.heap.size + 1, 0, none⟩ = some (.string nm) ∧ w'.cell? ⟨w.heap.size + 1, 1, none⟩ = some (.int .i64 lv) ∧ w'.cell? ⟨w.heap.size + 1, 2, none⟩ = some (.string tx) ∧ w'.cell? ⟨w.heap.size + 1, 3, none⟩ = some (.int .i64 sq)) W from ⟨((HT1.out.to hR).2 0 _ rfl).1, ((HT1.out.to hR).2 1 _ rfl).1, ((HT1.out.to hR).2 2 _ rfl).1, ((HK1.out.to hR).2 0 _ rfl).1, ((HK1.out.to hR).2 1 _ rfl).1, ((HK1.out.to hR).2 2 _ rfl).1, ((HK1.out.to hR).2 3 _ rfl).1⟩))
        refine wp_region_held_drew (S := fun w' : World => w'.cell? ⟨w.heap.size, 0, none⟩ = some (.slice (some ⟨b, o, none⟩) n1 k1) ∧ w'.cell? ⟨w.heap.size, 1, none⟩ = some (.slice A2 n2 k2) ∧ w'.cell? ⟨w.heap.size, 2, none⟩ = some (.int .i64 q) ∧ w'.cell? ⟨w.heap.size + 1, 0, none⟩ = some (.string nm) ∧ w'.cell? ⟨w.heap.size + 1, 1, none⟩ = some (.int .i64 lv) ∧ w'.cell? ⟨w.heap.size + 1, 2, none⟩ = some (.string tx) ∧ w'.cell? ⟨w.heap.size + 1, 3, none⟩ = some (.int .i64 sq)) (by kernel_rfl) (SF.out _ HR0.out) (fun hS => ?_)
        refine wpAnyH_take (i := 0) (oi := ?oi101) (v := ?v101) ?hi101 (by kernel_rfl) ?hf101 ?hr101 ?hQ101 (Or.inl ⟨?hw101, ?hy101⟩) (by assumption) ?rest101
        case hi101 => simp only [List.getElem?_toArray, List.getElem?_cons_succ, List.getElem?_cons_zero]; rfl
        case hf101 => kernel_rfl
        case hr101 => kernel_rfl
        case hw101 => rfl
        case hy101 => (intro w hSw; (try dsimp only at hSw); go_simp; all_goals (first | done | with_reducible rfl))
        case hQ101 => exact fun _ _ _ h => h
        simp only [Act.put, List.setIfInBounds_toArray, List.set_cons_zero, List.set_cons_succ]
        refine wpAnyH_take (i := 1) (oi := ?oi102) (v := ?v102) ?hi102 (by kernel_rfl) ?hf102 ?hr102 ?hQ102 (Or.inl ⟨?hw102, ?hy102⟩) (by assumption) ?rest102
        case hi102 => simp only [List.getElem?_toArray, List.getElem?_cons_succ, List.getElem?_cons_zero]; rfl
        case hf102 => kernel_rfl
        case hr102 => kernel_rfl
        case hw102 => rfl
        case hy102 => (intro w hSw; (try dsimp only at hSw); go_simp; all_goals (first | done | with_reducible rfl))
        case hQ102 => exact fun _ _ _ h => h
        simp only [Act.put, List.setIfInBounds_toArray, List.set_cons_zero, List.set_cons_succ]
        refine wpAnyH_take (i := 2) (oi := ?oi103) (v := ?v103) ?hi103 (by kernel_rfl) ?hf103 ?hr103 ?hQ103 (Or.inl ⟨?hw103, ?hy103⟩) (by assumption) ?rest103
        case hi103 => simp only [List.getElem?_toArray, List.getElem?_cons_succ, List.getElem?_cons_zero]; rfl
        case hf103 => kernel_rfl
        case hr103 => kernel_rfl
        case hw103 => rfl
        case hy103 => (intro w hSw; (try dsimp only at hSw); go_simp; all_goals (first | done | with_reducible rfl))
        case hQ103 => exact fun _ _ _ h => h
        simp only [Act.put, List.setIfInBounds_toArray, List.set_cons_zero, List.set_cons_succ]
        refine wpAnyH_take (i := 4) (oi := ?oi104) (v := ?v104) ?hi104 (by kernel_rfl) ?hf104 ?hr104 ?hQ104 (Or.inl ⟨?hw104, ?hy104⟩) (by assumption) ?rest104
        case hi104 => simp only [List.getElem?_toArray, List.getElem?_cons_succ, List.getElem?_cons_zero]; rfl
        case hf104 => kernel_rfl
        case hr104 => kernel_rfl
        case hw104 => rfl
        case hy104 => (intro w hSw; (try dsimp only at hSw); go_simp; all_goals (first | done | with_reducible rfl))
        case hQ104 => exact fun _ _ _ h => h
        simp only [Act.put, List.setIfInBounds_toArray, List.set_cons_zero, List.set_cons_succ]
        generalize hwd : w1.drew = wd at *
        clear hwd
        refine wpAnyH_ready (rs := [3, 9]) (by kernel_rfl) (by simp) ?_
        refine AllReadyH.cons (o := ?oi105) ?hi105 (fun K hK => ?stepA105) (AllReadyH.cons (o := ?oj105) ?hj105 (fun K hK => ?stepB105) AllReadyH.nil)
        case hi105 => simp only [List.getElem?_toArray, List.getElem?_cons_succ, List.getElem?_cons_zero]; rfl
        case hj105 => simp only [List.getElem?_toArray, List.getElem?_cons_succ, List.getElem?_cons_zero]; rfl
        all_goals rw [if_pos (by rfl)]
        all_goals go_simp
        · go_at_call 75
          refine (CO.out _ (HB1.out.trans ((HR0.out).mono HB1.out.size))).mono ?_
          rintro e wa1 ⟨Aq, fq, cq, rfl, hF, hb⟩
          have HF1 := hid hF
          have HR1 := hid ((HR0.out).trans (hb.mono (HR0.out).size))
          clear hb hF
          refine hK.out _ _ (SF.out _ HR1.out) (fun hS => ?_)
          refine wpAnyH_ready (rs := [5, 9]) (by kernel_rfl) (by simp) ?_
          refine AllReadyH.cons (o := ?oi106) ?hi106 (fun K hK => ?stepA106) (AllReadyH.cons (o := ?oj106) ?hj106 (fun K hK => ?stepB106) AllReadyH.nil)
          case hi106 => simp only [List.getElem?_toArray, List.getElem?_cons_succ, List.getElem?_cons_zero]; rfl
          case hj106 => simp only [List.getElem?_toArray, List.getElem?_cons_succ, List.getElem?_cons_zero]; rfl
          all_goals rw [if_pos (by rfl)]
          all_goals go_simp
          · go_at_call 74
            refine (CF.out _ _ _ _ (HF1.out)).mono ?_
            rintro e wa2 ⟨rfl, hb⟩
            have HR2 := hid ((HR1.out).trans (hb.mono (HR1.out).size))
            clear hb
            refine hK.out _ _ (SF.out _ HR2.out) (fun hS => ?_)
            refine wpAnyH_take (i := 6) (oi := ?oi107) (v := ?v107) ?hi107 (by kernel_rfl) ?hf107 ?hr107 ?hQ107 (Or.inl ⟨?hw107, ?hy107⟩) (by assumption) ?rest107
            case hi107 => simp only [List.getElem?_toArray, List.getElem?_cons_succ, List.getElem?_cons_zero]; rfl
            case hf107 => kernel_rfl
            case hr107 => kernel_rfl
            case hw107 => rfl
            case hy107 => (intro w hSw; (try dsimp only at hSw); go_simp; all_goals (first | done | with_reducible rfl))
            case hQ107 => exact fun _ _ _ h => h
            simp only [Act.put, List.setIfInBounds_toArray, List.set_cons_zero, List.set_cons_succ]
            refine wpAnyH_take (i := 7) (oi := ?oi108) (v := ?v108) ?hi108 (by kernel_rfl) ?hf108 ?hr108 ?hQ108 (Or.inl ⟨?hw108, ?hy108⟩) (by assumption) ?rest108
            case hi108 => simp only [List.getElem?_toArray, List.getElem?_cons_succ, List.getElem?_cons_zero]; rfl
            case hf108 => kernel_rfl
            case hr108 => kernel_rfl
            case hw108 => rfl
            case hy108 => (intro w hSw; (try dsimp only at hSw); go_simp; all_goals (first | done | with_reducible rfl))
            case hQ108 => exact fun _ _ _ h => h
            simp only [Act.put, List.setIfInBounds_toArray, List.set_cons_zero, List.set_cons_succ]
            refine wpAnyH_take (i := 8) (oi := ?oi109) (v := ?v109) ?hi109 (by kernel_rfl) ?hf109 ?hr109 ?hQ109 (Or.inl ⟨?hw109, ?hy109⟩) (by assumption) ?rest109
            case hi109 => simp only [List.getElem?_toArray, List.getElem?_cons_succ, List.getElem?_cons_zero]; rfl
            case hf109 => kernel_rfl
            case hr109 => kernel_rfl
            case hw109 => rfl
            case hy109 => (intro w hSw; (try dsimp only at hSw); go_simp; all_goals (first | done | with_reducible rfl))
            case hQ109 => exact fun _ _ _ h => h
            simp only [Act.put, List.setIfInBounds_toArray, List.set_cons_zero, List.set_cons_succ]
            refine wpAnyH_ready (rs := [9]) (by kernel_rfl) (by simp) ?_
            refine AllReadyH.cons (o := ?oi110) ?hi110 (fun K hK => ?step110) AllReadyH.nil
            case hi110 => simp only [List.getElem?_toArray, List.getElem?_cons_succ, List.getElem?_cons_zero]; rfl
            rw [if_pos (by rfl)]
            go_simp
            have HR3 := hid ((HR2.out).alloc (HR2.out).size (.cells #[.string ⟨#[]⟩, .int .i64 0, .string ⟨#[]⟩, .int .i64 0] 61))
            have KX3 := hid (Blk.new wa2 #[.string ⟨#[]⟩, .int .i64 0, .string ⟨#[]⟩, .int .i64 0] 61)
            have hbx : w1.heap.size ≤ wa2.heap.size := (HR2.out).size
            refine hK.out _ _ (SF.out _ HR3.out) (fun hS => ?_)
            generalize hbxx : wa2.heap.size = bx at *
            generalize wa2.alloc (.cells #[.string ⟨#[]⟩, .int .i64 0, .string ⟨#[]⟩, .int .i64 0] 61) = wx3 at *
            clear hbxx
            have HR9 := hid (below_setCellsX bx hbx [.string ⟨#[]⟩, .int .i64 0, .string ⟨#[]⟩, .int .i64 0] 0 _ (HR3.out))
            have RB := hid ((KX3.out).storeX (vs := [.string ⟨#[]⟩, .int .i64 0, .string ⟨#[]⟩, .int .i64 0]) rfl)
            have hth := (KX3.out).thereX
            refine wpAnyH_ready (rs := [10]) (by kernel_rfl) (by simp) ?_
            refine AllReadyH.cons (o := ?oi111) ?hi111 (fun K hK => ?step111) AllReadyH.nil
            case hi111 => simp only [List.getElem?_toArray, List.getElem?_cons_succ, List.getElem?_cons_zero]; rfl
            rw [if_pos (by rfl)]
            refine wp_store_mid 61 (.tmp 6) (.tmp 29) rfl bx 0 #[.string ⟨#[]⟩, .int .i64 0, .string ⟨#[]⟩, .int .i64 0] (by rfl) (by rfl) hth Tryz.sizeRecordX (all_oneCell_toArray (cs := [.string ⟨#[]⟩, .int .i64 0, .string ⟨#[]⟩, .int .i64 0]) (List.all_eq_true.1 rfl)) ?_
            refine hK.out _ _ (SF.out _ HR9.out) (fun hS => ?_)
            simp only [Act.put, List.setIfInBounds_toArray, List.set_cons_zero, List.set_cons_succ]
            refine wpAnyH_take (i := 11) (oi := ?oi112) (v := ?v112) ?hi112 (by kernel_rfl) ?hf112 ?hr112 ?hQ112 (Or.inl ⟨?hw112, ?hy112⟩) (by assumption) ?rest112
            case hi112 => simp only [List.getElem?_toArray, List.getElem?_cons_succ, List.getElem?_cons_zero]; rfl
            case hf112 => kernel_rfl
            case hr112 => kernel_rfl
            case hw112 => rfl
            case hy112 => (intro w hSw; (try dsimp only at hSw); go_simp; all_goals (first | done | with_reducible rfl))
            case hQ112 => exact fun _ _ _ h => h
            simp only [Act.put, List.setIfInBounds_toArray, List.set_cons_zero, List.set_cons_succ]
            refine wpAnyH_done (by kernel_rfl) ?_ _
            clear hS hth
            go_wp2_with fail
            go_meet
            case rel => exact ⟨_, rfl, rfl, hbx, RB.out, HR9.out⟩
          · have HR4 := hid ((HR1.out).alloc (HR1.out).size (.cells #[.string ⟨#[]⟩, .int .i64 0, .string ⟨#[]⟩, .int .i64 0] 61))
            have KX4 := hid (Blk.new wa1 #[.string ⟨#[]⟩, .int .i64 0, .string ⟨#[]⟩, .int .i64 0] 61)
            have hbx : w1.heap.size ≤ wa1.heap.size := (HR1.out).size
            have HF4 := hid (show Fs (wa1.alloc (.cells #[.string ⟨#[]⟩, .int .i64 0, .string ⟨#[]⟩, .int .i64 0] 61)) (wa1.alloc (.cells #[.string ⟨#[]⟩, .int .i64 0, .string ⟨#[]⟩, .int .i64 0] 61)).heap.size fq (.slice Aq fq cq) (ownF L nm.data.toList) from ⟨((HF1.out).1.below ((Below.refl wa1.heap.size wa1).alloc (Nat.le_refl _) _) (Nat.le_refl _)).more (by simp), (HF1.out).2⟩)
            refine hK.out _ _ (SF.out _ HR4.out) (fun hS => ?_)
            generalize hbxx : wa1.heap.size = bx at *
            generalize wa1.alloc (.cells #[.string ⟨#[]⟩, .int .i64 0, .string ⟨#[]⟩, .int .i64 0] 61) = wx4 at *
            clear hbxx
            refine wpAnyH_ready (rs := [5]) (by kernel_rfl) (by simp) ?_
            refine AllReadyH.cons (o := ?oi113) ?hi113 (fun K hK => ?step113) AllReadyH.nil
            case hi113 => simp only [List.getElem?_toArray, List.getElem?_cons_succ, List.getElem?_cons_zero]; rfl
            rw [if_pos (by rfl)]
            go_simp
            go_at_call 74
            refine (CF.out _ _ _ _ (HF4.out)).mono ?_
            rintro e wa5 ⟨rfl, hb⟩
            have HR5 := hid ((HR4.out).trans (hb.mono (HR4.out).size))
            have KX5 := hid ((KX4.out).to hb)
            clear hb
            refine hK.out _ _ (SF.out _ HR5.out) (fun hS => ?_)
            refine wpAnyH_take (i := 6) (oi := ?oi114) (v := ?v114) ?hi114 (by kernel_rfl) ?hf114 ?hr114 ?hQ114 (Or.inl ⟨?hw114, ?hy114⟩) (by assumption) ?rest114
            case hi114 => simp only [List.getElem?_toArray, List.getElem?_cons_succ, List.getElem?_cons_zero]; rfl
            case hf114 => kernel_rfl
            case hr114 => kernel_rfl
            case hw114 => rfl
            case hy114 => (intro w hSw; (try dsimp only at hSw); go_simp; all_goals (first | done | with_reducible rfl))
            case hQ114 => exact fun _ _ _ h => h
            simp only [Act.put, List.setIfInBounds_toArray, List.set_cons_zero, List.set_cons_succ]
            refine wpAnyH_take (i := 7) (oi := ?oi115) (v := ?v115) ?hi115 (by kernel_rfl) ?hf115 ?hr115 ?hQ115 (Or.inl ⟨?hw115, ?hy115⟩) (by assumption) ?rest115
            case hi115 => simp only [List.getElem?_toArray, List.getElem?_cons_succ, List.getElem?_cons_zero]; rfl
            case hf115 => kernel_rfl
            case hr115 => kernel_rfl
            case hw115 => rfl
            case hy115 => (intro w hSw; (try dsimp only at hSw); go_simp; all_goals (first | done | with_reducible rfl))
            case hQ115 => exact fun _ _ _ h => h
            simp only [Act.put, List.setIfInBounds_toArray, List.set_cons_zero, List.set_cons_succ]
            refine wpAnyH_take (i := 8) (oi := ?oi116) (v := ?v116) ?hi116 (by kernel_rfl) ?hf116 ?hr116 ?hQ116 (Or.inl ⟨?hw116, ?hy116⟩) (by assumption) ?rest116
            case hi116 => simp only [List.getElem?_toArray, List.getElem?_cons_succ, List.getElem?_cons_zero]; rfl
            case hf116 => kernel_rfl
            case hr116 => kernel_rfl
            case hw116 => rfl
            case hy116 => (intro w hSw; (try dsimp only at hSw); go_simp; all_goals (first | done | with_reducible rfl))
            case hQ116 => exact fun _ _ _ h => h
            simp only [Act.put, List.setIfInBounds_toArray, List.set_cons_zero, List.set_cons_succ]
            have HR9 := hid (below_setCellsX bx hbx [.string ⟨#[]⟩, .int .i64 0, .string ⟨#[]⟩, .int .i64 0] 0 _ (HR5.out))
            have RB := hid ((KX5.out).storeX (vs := [.string ⟨#[]⟩, .int .i64 0, .string ⟨#[]⟩, .int .i64 0]) rfl)
            have hth := (KX5.out).thereX
            refine wpAnyH_ready (rs := [10]) (by kernel_rfl) (by simp) ?_
            refine AllReadyH.cons (o := ?oi117) ?hi117 (fun K hK => ?step117) AllReadyH.nil
            case hi117 => simp only [List.getElem?_toArray, List.getElem?_cons_succ, List.getElem?_cons_zero]; rfl
            rw [if_pos (by rfl)]
            refine wp_store_mid 61 (.tmp 6) (.tmp 29) rfl bx 0 #[.string ⟨#[]⟩, .int .i64 0, .string ⟨#[]⟩, .int .i64 0] (by rfl) (by rfl) hth Tryz.sizeRecordX (all_oneCell_toArray (cs := [.string ⟨#[]⟩, .int .i64 0, .string ⟨#[]⟩, .int .i64 0]) (List.all_eq_true.1 rfl)) ?_
            refine hK.out _ _ (SF.out _ HR9.out) (fun hS => ?_)
            simp only [Act.put, List.setIfInBounds_toArray, List.set_cons_zero, List.set_cons_succ]
            refine wpAnyH_take (i := 11) (oi := ?oi118) (v := ?v118) ?hi118 (by kernel_rfl) ?hf118 ?hr118 ?hQ118 (Or.inl ⟨?hw118, ?hy118⟩) (by assumption) ?rest118
            case hi118 => simp only [List.getElem?_toArray, List.getElem?_cons_succ, List.getElem?_cons_zero]; rfl
            case hf118 => kernel_rfl
            case hr118 => kernel_rfl
            case hw118 => rfl
            case hy118 => (intro w hSw; (try dsimp only at hSw); go_simp; all_goals (first | done | with_reducible rfl))
            case hQ118 => exact fun _ _ _ h => h
            simp only [Act.put, List.setIfInBounds_toArray, List.set_cons_zero, List.set_cons_succ]
            refine wpAnyH_done (by kernel_rfl) ?_ _
            clear hS hth
            go_wp2_with fail
            go_meet
            case rel => exact ⟨_, rfl, rfl, hbx, RB.out, HR9.out⟩
        · have HR6 := hid ((HR0.out).alloc (HR0.out).size (.cells #[.string ⟨#[]⟩, .int .i64 0, .string ⟨#[]⟩, .int .i64 0] 61))
          have KX6 := hid (Blk.new wd #[.string ⟨#[]⟩, .int .i64 0, .string ⟨#[]⟩, .int .i64 0] 61)
          have hbx : w1.heap.size ≤ wd.heap.size := (HR0.out).size
          refine hK.out _ _ (SF.out _ HR6.out) (fun hS => ?_)
          generalize hbxx : wd.heap.size = bx at *
          generalize wd.alloc (.cells #[.string ⟨#[]⟩, .int .i64 0, .string ⟨#[]⟩, .int .i64 0] 61) = wx6 at *
          clear hbxx
          refine wpAnyH_ready (rs := [3]) (by kernel_rfl) (by simp) ?_
          refine AllReadyH.cons (o := ?oi119) ?hi119 (fun K hK => ?step119) AllReadyH.nil
          case hi119 => simp only [List.getElem?_toArray, List.getElem?_cons_succ, List.getElem?_cons_zero]; rfl
          rw [if_pos (by rfl)]
          go_simp
          go_at_call 75
          refine (CO.out _ (HB1.out.trans ((HR6.out).mono HB1.out.size))).mono ?_
          rintro e wa7 ⟨Aq, fq, cq, rfl, hF, hb⟩
          have HF7 := hid hF
          have HR7 := hid ((HR6.out).trans (hb.mono (HR6.out).size))
          have KX7 := hid ((KX6.out).to hb)
          clear hb hF
          refine hK.out _ _ (SF.out _ HR7.out) (fun hS => ?_)
          refine wpAnyH_ready (rs := [5]) (by kernel_rfl) (by simp) ?_
          refine AllReadyH.cons (o := ?oi120) ?hi120 (fun K hK => ?step120) AllReadyH.nil
          case hi120 => simp only [List.getElem?_toArray, List.getElem?_cons_succ, List.getElem?_cons_zero]; rfl
          rw [if_pos (by rfl)]
          go_simp
          go_at_call 74
          refine (CF.out _ _ _ _ (HF7.out)).mono ?_
          rintro e wa8 ⟨rfl, hb⟩
          have HR8 := hid ((HR7.out).trans (hb.mono (HR7.out).size))
          have KX8 := hid ((KX7.out).to hb)
          clear hb
          refine hK.out _ _ (SF.out _ HR8.out) (fun hS => ?_)
          refine wpAnyH_take (i := 6) (oi := ?oi121) (v := ?v121) ?hi121 (by kernel_rfl) ?hf121 ?hr121 ?hQ121 (Or.inl ⟨?hw121, ?hy121⟩) (by assumption) ?rest121
          case hi121 => simp only [List.getElem?_toArray, List.getElem?_cons_succ, List.getElem?_cons_zero]; rfl
          case hf121 => kernel_rfl
          case hr121 => kernel_rfl
          case hw121 => rfl
          case hy121 => (intro w hSw; (try dsimp only at hSw); go_simp; all_goals (first | done | with_reducible rfl))
          case hQ121 => exact fun _ _ _ h => h
          simp only [Act.put, List.setIfInBounds_toArray, List.set_cons_zero, List.set_cons_succ]
          refine wpAnyH_take (i := 7) (oi := ?oi122) (v := ?v122) ?hi122 (by kernel_rfl) ?hf122 ?hr122 ?hQ122 (Or.inl ⟨?hw122, ?hy122⟩) (by assumption) ?rest122
          case hi122 => simp only [List.getElem?_toArray, List.getElem?_cons_succ, List.getElem?_cons_zero]; rfl
          case hf122 => kernel_rfl
          case hr122 => kernel_rfl
          case hw122 => rfl
          case hy122 => (intro w hSw; (try dsimp only at hSw); go_simp; all_goals (first | done | with_reducible rfl))
          case hQ122 => exact fun _ _ _ h => h
          simp only [Act.put, List.setIfInBounds_toArray, List.set_cons_zero, List.set_cons_succ]
          refine wpAnyH_take (i := 8) (oi := ?oi123) (v := ?v123) ?hi123 (by kernel_rfl) ?hf123 ?hr123 ?hQ123 (Or.inl ⟨?hw123, ?hy123⟩) (by assumption) ?rest123
          case hi123 => simp only [List.getElem?_toArray, List.getElem?_cons_succ, List.getElem?_cons_zero]; rfl
          case hf123 => kernel_rfl
          case hr123 => kernel_rfl
          case hw123 => rfl
          case hy123 => (intro w hSw; (try dsimp only at hSw); go_simp; all_goals (first | done | with_reducible rfl))
          case hQ123 => exact fun _ _ _ h => h
          simp only [Act.put, List.setIfInBounds_toArray, List.set_cons_zero, List.set_cons_succ]
          have HR9 := hid (below_setCellsX bx hbx [.string ⟨#[]⟩, .int .i64 0, .string ⟨#[]⟩, .int .i64 0] 0 _ (HR8.out))
          have RB := hid ((KX8.out).storeX (vs := [.string ⟨#[]⟩, .int .i64 0, .string ⟨#[]⟩, .int .i64 0]) rfl)
          have hth := (KX8.out).thereX
          refine wpAnyH_ready (rs := [10]) (by kernel_rfl) (by simp) ?_
          refine AllReadyH.cons (o := ?oi124) ?hi124 (fun K hK => ?step124) AllReadyH.nil
          case hi124 => simp only [List.getElem?_toArray, List.getElem?_cons_succ, List.getElem?_cons_zero]; rfl
          rw [if_pos (by rfl)]
          refine wp_store_mid 61 (.tmp 6) (.tmp 29) rfl bx 0 #[.string ⟨#[]⟩, .int .i64 0, .string ⟨#[]⟩, .int .i64 0] (by rfl) (by rfl) hth Tryz.sizeRecordX (all_oneCell_toArray (cs := [.string ⟨#[]⟩, .int .i64 0, .string ⟨#[]⟩, .int .i64 0]) (List.all_eq_true.1 rfl)) ?_
          refine hK.out _ _ (SF.out _ HR9.out) (fun hS => ?_)
          simp only [Act.put, List.setIfInBounds_toArray, List.set_cons_zero, List.set_cons_succ]
          refine wpAnyH_take (i := 11) (oi := ?oi125) (v := ?v125) ?hi125 (by kernel_rfl) ?hf125 ?hr125 ?hQ125 (Or.inl ⟨?hw125, ?hy125⟩) (by assumption) ?rest125
          case hi125 => simp only [List.getElem?_toArray, List.getElem?_cons_succ, List.getElem?_cons_zero]; rfl
          case hf125 => kernel_rfl
          case hr125 => kernel_rfl
          case hw125 => rfl
          case hy125 => (intro w hSw; (try dsimp only at hSw); go_simp; all_goals (first | done | with_reducible rfl))
          case hQ125 => exact fun _ _ _ h => h
          simp only [Act.put, List.setIfInBounds_toArray, List.set_cons_zero, List.set_cons_succ]
          refine wpAnyH_done (by kernel_rfl) ?_ _
          clear hS hth
          go_wp2_with fail
          go_meet
          case rel => exact ⟨_, rfl, rfl, hbx, RB.out, HR9.out⟩
      case rest =>
        obtain ⟨bx, rfl, rfl, hbx, KX, HRc⟩ := hcut
        have HBc := hid (HB1.out.trans (HRc.out.mono HB1.out.size))
        have HOc := hid (own_below HO1.out HRc.out)
        go_wp2_with fail
        go_ret
        exact ⟨_, rfl, by rw [HE.out]; exact own_base HOc.out (by omega), HBc.out⟩
    | some g =>
      rw [hfl] at CF
      have CF := hid (fun (Aq : Option Addr) (fq cq : Nat) (W : World) (hF : Fs W W.heap.size fq (.slice Aq fq cq) (ownF L nm.data.toList)) => (show Calls _ _ _ _ (fun e w' => e = .returned (.tuple #[.agg #[.string nm, .int .i64 g, .string tx, .int .i64 sq], .bool true]) ∧ Below W.heap.size W w') from CF Aq fq cq W hF))
      have hent : entX L q nm.data.toList tx.data.toList lv = (0, g) := ent_sent p1 p2 p3 hfl
      have hrg := ent_range (L := L) (q := q) (nm := nm.data.toList) (tx := tx.data.toList) (lv := lv) hz h1 h2
      rw [hent] at hrg
      obtain ⟨g1, g2⟩ : 1 ≤ g ∧ g ≤ 60 := hrg
      have HE := hid (sendX_ok hz hr hent)
      have HSX := hid (show spX L nm.data.toList = if spotsI L (pathN (nsOf L) nm.data.toList) = [] then [⟨[], lastL⟩] else spotsI L (pathN (nsOf L) nm.data.toList) from rfl)
      have HLAST := hid (fun (sq g : Int) => sent_last hnl nm.data.toList tx.data.toList sq g)
      clear h hl hL hN hn h0 hnd0 hnmm hlen hh hH hnd hnl hn6 hz hr hen hnk hfl p1 p2 p3 hent
      generalize sendX L H q ⟨nm.data.toList, lv, tx.data.toList, sq⟩ = Y at HE ⊢
      replace HE := hid (show Y = sentOf nm.data.toList tx.data.toList sq (outs H nm.data.toList tx.data.toList (spX L nm.data.toList) g) from HE.out)
      generalize spX L nm.data.toList = SP at HE HSX
      generalize spotsI L (pathN (nsOf L) nm.data.toList) = sp at HSX HSL CS hld
      go_enter Tryz.func36, Tryz.ntmps36
      go_wp2_with fail
      refine (CE.out _ HB0.out).mono ?_
      rintro e w1 ⟨rfl, hb⟩
      have HB1 := hid (HB0.out.trans (hb.mono HB0.out.size))
      have HT1 := hid (HT0.out.to hb)
      have HK1 := hid (HK0.out.to hb)
      have HO1 := hid (own_below HO0.out hb)
      have hw3 : w.heap.size + 1 + 1 < w1.heap.size := by have := hb.size; simp at this; omega
      have hw1 : w.heap.size + 1 < w1.heap.size := HK1.out.1
      clear hb
      have d0 := (HK1.out.2 0 _ rfl).1
      go_wp2_with fail
      go_cut [6, 7] from 22 (fun s6 s7 wc => ∃ bx, s6 = .pointer (some ⟨bx, 0, none⟩) ∧ s7 = .bool true ∧ w1.heap.size ≤ bx ∧ Hid (Blk wc bx [.string nm, .int .i64 g, .string tx, .int .i64 sq]) ∧ Hid (Below w1.heap.size w1 wc))
      case first =>
        have HR0 := hid ((Below.refl w1.heap.size w1).drew)
        have SF := hid (fun (W : World) (hR : Below w1.heap.size w1 W) => (show (fun w' : World => w'.cell? ⟨w.heap.size, 0, none⟩ = some (.slice (some ⟨b, o, none⟩) n1 k1) ∧ w'.cell? ⟨w.heap.size, 1, none⟩ = some (.slice A2 n2 k2) ∧ w'.cell? ⟨w.heap.size, 2, none⟩ = some (.int .i64 q) ∧ w'.cell? ⟨w.heap.size + 1, 0, none⟩ = some (.string nm) ∧ w'.cell? ⟨w.heap.size + 1, 1, none⟩ = some (.int .i64 lv) ∧ w'.cell? ⟨w.heap.size + 1, 2, none⟩ = some (.string tx) ∧ w'.cell? ⟨w.heap.size + 1, 3, none⟩ = some (.int .i64 sq)) W from ⟨((HT1.out.to hR).2 0 _ rfl).1, ((HT1.out.to hR).2 1 _ rfl).1, ((HT1.out.to hR).2 2 _ rfl).1, ((HK1.out.to hR).2 0 _ rfl).1, ((HK1.out.to hR).2 1 _ rfl).1, ((HK1.out.to hR).2 2 _ rfl).1, ((HK1.out.to hR).2 3 _ rfl).1⟩))
        refine wp_region_held_drew (S := fun w' : World => w'.cell? ⟨w.heap.size, 0, none⟩ = some (.slice (some ⟨b, o, none⟩) n1 k1) ∧ w'.cell? ⟨w.heap.size, 1, none⟩ = some (.slice A2 n2 k2) ∧ w'.cell? ⟨w.heap.size, 2, none⟩ = some (.int .i64 q) ∧ w'.cell? ⟨w.heap.size + 1, 0, none⟩ = some (.string nm) ∧ w'.cell? ⟨w.heap.size + 1, 1, none⟩ = some (.int .i64 lv) ∧ w'.cell? ⟨w.heap.size + 1, 2, none⟩ = some (.string tx) ∧ w'.cell? ⟨w.heap.size + 1, 3, none⟩ = some (.int .i64 sq)) (by kernel_rfl) (SF.out _ HR0.out) (fun hS => ?_)
        refine wpAnyH_take (i := 0) (oi := ?oi126) (v := ?v126) ?hi126 (by kernel_rfl) ?hf126 ?hr126 ?hQ126 (Or.inl ⟨?hw126, ?hy126⟩) (by assumption) ?rest126
        case hi126 => simp only [List.getElem?_toArray, List.getElem?_cons_succ, List.getElem?_cons_zero]; rfl
        case hf126 => kernel_rfl
        case hr126 => kernel_rfl
        case hw126 => rfl
        case hy126 => (intro w hSw; (try dsimp only at hSw); go_simp; all_goals (first | done | with_reducible rfl))
        case hQ126 => exact fun _ _ _ h => h
        simp only [Act.put, List.setIfInBounds_toArray, List.set_cons_zero, List.set_cons_succ]
        refine wpAnyH_take (i := 1) (oi := ?oi127) (v := ?v127) ?hi127 (by kernel_rfl) ?hf127 ?hr127 ?hQ127 (Or.inl ⟨?hw127, ?hy127⟩) (by assumption) ?rest127
        case hi127 => simp only [List.getElem?_toArray, List.getElem?_cons_succ, List.getElem?_cons_zero]; rfl
        case hf127 => kernel_rfl
        case hr127 => kernel_rfl
        case hw127 => rfl
        case hy127 => (intro w hSw; (try dsimp only at hSw); go_simp; all_goals (first | done | with_reducible rfl))
        case hQ127 => exact fun _ _ _ h => h
        simp only [Act.put, List.setIfInBounds_toArray, List.set_cons_zero, List.set_cons_succ]
        refine wpAnyH_take (i := 2) (oi := ?oi128) (v := ?v128) ?hi128 (by kernel_rfl) ?hf128 ?hr128 ?hQ128 (Or.inl ⟨?hw128, ?hy128⟩) (by assumption) ?rest128
        case hi128 => simp only [List.getElem?_toArray, List.getElem?_cons_succ, List.getElem?_cons_zero]; rfl
        case hf128 => kernel_rfl
        case hr128 => kernel_rfl
        case hw128 => rfl
        case hy128 => (intro w hSw; (try dsimp only at hSw); go_simp; all_goals (first | done | with_reducible rfl))
        case hQ128 => exact fun _ _ _ h => h
        simp only [Act.put, List.setIfInBounds_toArray, List.set_cons_zero, List.set_cons_succ]
        refine wpAnyH_take (i := 4) (oi := ?oi129) (v := ?v129) ?hi129 (by kernel_rfl) ?hf129 ?hr129 ?hQ129 (Or.inl ⟨?hw129, ?hy129⟩) (by assumption) ?rest129
        case hi129 => simp only [List.getElem?_toArray, List.getElem?_cons_succ, List.getElem?_cons_zero]; rfl
        case hf129 => kernel_rfl
        case hr129 => kernel_rfl
        case hw129 => rfl
        case hy129 => (intro w hSw; (try dsimp only at hSw); go_simp; all_goals (first | done | with_reducible rfl))
        case hQ129 => exact fun _ _ _ h => h
        simp only [Act.put, List.setIfInBounds_toArray, List.set_cons_zero, List.set_cons_succ]
        generalize hwd : w1.drew = wd at *
        clear hwd
        refine wpAnyH_ready (rs := [3, 9]) (by kernel_rfl) (by simp) ?_
        refine AllReadyH.cons (o := ?oi130) ?hi130 (fun K hK => ?stepA130) (AllReadyH.cons (o := ?oj130) ?hj130 (fun K hK => ?stepB130) AllReadyH.nil)
        case hi130 => simp only [List.getElem?_toArray, List.getElem?_cons_succ, List.getElem?_cons_zero]; rfl
        case hj130 => simp only [List.getElem?_toArray, List.getElem?_cons_succ, List.getElem?_cons_zero]; rfl
        all_goals rw [if_pos (by rfl)]
        all_goals go_simp
        · go_at_call 75
          refine (CO.out _ (HB1.out.trans ((HR0.out).mono HB1.out.size))).mono ?_
          rintro e wa1 ⟨Aq, fq, cq, rfl, hF, hb⟩
          have HF1 := hid hF
          have HR1 := hid ((HR0.out).trans (hb.mono (HR0.out).size))
          clear hb hF
          refine hK.out _ _ (SF.out _ HR1.out) (fun hS => ?_)
          refine wpAnyH_ready (rs := [5, 9]) (by kernel_rfl) (by simp) ?_
          refine AllReadyH.cons (o := ?oi131) ?hi131 (fun K hK => ?stepA131) (AllReadyH.cons (o := ?oj131) ?hj131 (fun K hK => ?stepB131) AllReadyH.nil)
          case hi131 => simp only [List.getElem?_toArray, List.getElem?_cons_succ, List.getElem?_cons_zero]; rfl
          case hj131 => simp only [List.getElem?_toArray, List.getElem?_cons_succ, List.getElem?_cons_zero]; rfl
          all_goals rw [if_pos (by rfl)]
          all_goals go_simp
          · go_at_call 74
            refine (CF.out _ _ _ _ (HF1.out)).mono ?_
            rintro e wa2 ⟨rfl, hb⟩
            have HR2 := hid ((HR1.out).trans (hb.mono (HR1.out).size))
            clear hb
            refine hK.out _ _ (SF.out _ HR2.out) (fun hS => ?_)
            refine wpAnyH_take (i := 6) (oi := ?oi132) (v := ?v132) ?hi132 (by kernel_rfl) ?hf132 ?hr132 ?hQ132 (Or.inl ⟨?hw132, ?hy132⟩) (by assumption) ?rest132
            case hi132 => simp only [List.getElem?_toArray, List.getElem?_cons_succ, List.getElem?_cons_zero]; rfl
            case hf132 => kernel_rfl
            case hr132 => kernel_rfl
            case hw132 => rfl
            case hy132 => (intro w hSw; (try dsimp only at hSw); go_simp; all_goals (first | done | with_reducible rfl))
            case hQ132 => exact fun _ _ _ h => h
            simp only [Act.put, List.setIfInBounds_toArray, List.set_cons_zero, List.set_cons_succ]
            refine wpAnyH_take (i := 7) (oi := ?oi133) (v := ?v133) ?hi133 (by kernel_rfl) ?hf133 ?hr133 ?hQ133 (Or.inl ⟨?hw133, ?hy133⟩) (by assumption) ?rest133
            case hi133 => simp only [List.getElem?_toArray, List.getElem?_cons_succ, List.getElem?_cons_zero]; rfl
            case hf133 => kernel_rfl
            case hr133 => kernel_rfl
            case hw133 => rfl
            case hy133 => (intro w hSw; (try dsimp only at hSw); go_simp; all_goals (first | done | with_reducible rfl))
            case hQ133 => exact fun _ _ _ h => h
            simp only [Act.put, List.setIfInBounds_toArray, List.set_cons_zero, List.set_cons_succ]
            refine wpAnyH_take (i := 8) (oi := ?oi134) (v := ?v134) ?hi134 (by kernel_rfl) ?hf134 ?hr134 ?hQ134 (Or.inl ⟨?hw134, ?hy134⟩) (by assumption) ?rest134
            case hi134 => simp only [List.getElem?_toArray, List.getElem?_cons_succ, List.getElem?_cons_zero]; rfl
            case hf134 => kernel_rfl
            case hr134 => kernel_rfl
            case hw134 => rfl
            case hy134 => (intro w hSw; (try dsimp only at hSw); go_simp; all_goals (first | done | with_reducible rfl))
            case hQ134 => exact fun _ _ _ h => h
            simp only [Act.put, List.setIfInBounds_toArray, List.set_cons_zero, List.set_cons_succ]
            refine wpAnyH_ready (rs := [9]) (by kernel_rfl) (by simp) ?_
            refine AllReadyH.cons (o := ?oi135) ?hi135 (fun K hK => ?step135) AllReadyH.nil
            case hi135 => simp only [List.getElem?_toArray, List.getElem?_cons_succ, List.getElem?_cons_zero]; rfl
            rw [if_pos (by rfl)]
            go_simp
            have HR3 := hid ((HR2.out).alloc (HR2.out).size (.cells #[.string ⟨#[]⟩, .int .i64 0, .string ⟨#[]⟩, .int .i64 0] 61))
            have KX3 := hid (Blk.new wa2 #[.string ⟨#[]⟩, .int .i64 0, .string ⟨#[]⟩, .int .i64 0] 61)
            have hbx : w1.heap.size ≤ wa2.heap.size := (HR2.out).size
            refine hK.out _ _ (SF.out _ HR3.out) (fun hS => ?_)
            generalize hbxx : wa2.heap.size = bx at *
            generalize wa2.alloc (.cells #[.string ⟨#[]⟩, .int .i64 0, .string ⟨#[]⟩, .int .i64 0] 61) = wx3 at *
            clear hbxx
            have HR9 := hid (below_setCellsX bx hbx [.string nm, .int .i64 g, .string tx, .int .i64 sq] 0 _ (HR3.out))
            have RB := hid ((KX3.out).storeX (vs := [.string nm, .int .i64 g, .string tx, .int .i64 sq]) rfl)
            have hth := (KX3.out).thereX
            refine wpAnyH_ready (rs := [10]) (by kernel_rfl) (by simp) ?_
            refine AllReadyH.cons (o := ?oi136) ?hi136 (fun K hK => ?step136) AllReadyH.nil
            case hi136 => simp only [List.getElem?_toArray, List.getElem?_cons_succ, List.getElem?_cons_zero]; rfl
            rw [if_pos (by rfl)]
            refine wp_store_mid 61 (.tmp 6) (.tmp 29) rfl bx 0 #[.string nm, .int .i64 g, .string tx, .int .i64 sq] (by rfl) (by rfl) hth Tryz.sizeRecordX (all_oneCell_toArray (cs := [.string nm, .int .i64 g, .string tx, .int .i64 sq]) (List.all_eq_true.1 rfl)) ?_
            refine hK.out _ _ (SF.out _ HR9.out) (fun hS => ?_)
            simp only [Act.put, List.setIfInBounds_toArray, List.set_cons_zero, List.set_cons_succ]
            refine wpAnyH_take (i := 11) (oi := ?oi137) (v := ?v137) ?hi137 (by kernel_rfl) ?hf137 ?hr137 ?hQ137 (Or.inl ⟨?hw137, ?hy137⟩) (by assumption) ?rest137
            case hi137 => simp only [List.getElem?_toArray, List.getElem?_cons_succ, List.getElem?_cons_zero]; rfl
            case hf137 => kernel_rfl
            case hr137 => kernel_rfl
            case hw137 => rfl
            case hy137 => (intro w hSw; (try dsimp only at hSw); go_simp; all_goals (first | done | with_reducible rfl))
            case hQ137 => exact fun _ _ _ h => h
            simp only [Act.put, List.setIfInBounds_toArray, List.set_cons_zero, List.set_cons_succ]
            refine wpAnyH_done (by kernel_rfl) ?_ _
            clear hS hth
            go_wp2_with fail
            go_meet
            case rel => exact ⟨_, rfl, rfl, hbx, RB.out, HR9.out⟩
          · have HR4 := hid ((HR1.out).alloc (HR1.out).size (.cells #[.string ⟨#[]⟩, .int .i64 0, .string ⟨#[]⟩, .int .i64 0] 61))
            have KX4 := hid (Blk.new wa1 #[.string ⟨#[]⟩, .int .i64 0, .string ⟨#[]⟩, .int .i64 0] 61)
            have hbx : w1.heap.size ≤ wa1.heap.size := (HR1.out).size
            have HF4 := hid (show Fs (wa1.alloc (.cells #[.string ⟨#[]⟩, .int .i64 0, .string ⟨#[]⟩, .int .i64 0] 61)) (wa1.alloc (.cells #[.string ⟨#[]⟩, .int .i64 0, .string ⟨#[]⟩, .int .i64 0] 61)).heap.size fq (.slice Aq fq cq) (ownF L nm.data.toList) from ⟨((HF1.out).1.below ((Below.refl wa1.heap.size wa1).alloc (Nat.le_refl _) _) (Nat.le_refl _)).more (by simp), (HF1.out).2⟩)
            refine hK.out _ _ (SF.out _ HR4.out) (fun hS => ?_)
            generalize hbxx : wa1.heap.size = bx at *
            generalize wa1.alloc (.cells #[.string ⟨#[]⟩, .int .i64 0, .string ⟨#[]⟩, .int .i64 0] 61) = wx4 at *
            clear hbxx
            refine wpAnyH_ready (rs := [5]) (by kernel_rfl) (by simp) ?_
            refine AllReadyH.cons (o := ?oi138) ?hi138 (fun K hK => ?step138) AllReadyH.nil
            case hi138 => simp only [List.getElem?_toArray, List.getElem?_cons_succ, List.getElem?_cons_zero]; rfl
            rw [if_pos (by rfl)]
            go_simp
            go_at_call 74
            refine (CF.out _ _ _ _ (HF4.out)).mono ?_
            rintro e wa5 ⟨rfl, hb⟩
            have HR5 := hid ((HR4.out).trans (hb.mono (HR4.out).size))
            have KX5 := hid ((KX4.out).to hb)
            clear hb
            refine hK.out _ _ (SF.out _ HR5.out) (fun hS => ?_)
            refine wpAnyH_take (i := 6) (oi := ?oi139) (v := ?v139) ?hi139 (by kernel_rfl) ?hf139 ?hr139 ?hQ139 (Or.inl ⟨?hw139, ?hy139⟩) (by assumption) ?rest139
            case hi139 => simp only [List.getElem?_toArray, List.getElem?_cons_succ, List.getElem?_cons_zero]; rfl
            case hf139 => kernel_rfl
            case hr139 => kernel_rfl
            case hw139 => rfl
            case hy139 => (intro w hSw; (try dsimp only at hSw); go_simp; all_goals (first | done | with_reducible rfl))
            case hQ139 => exact fun _ _ _ h => h
            simp only [Act.put, List.setIfInBounds_toArray, List.set_cons_zero, List.set_cons_succ]
            refine wpAnyH_take (i := 7) (oi := ?oi140) (v := ?v140) ?hi140 (by kernel_rfl) ?hf140 ?hr140 ?hQ140 (Or.inl ⟨?hw140, ?hy140⟩) (by assumption) ?rest140
            case hi140 => simp only [List.getElem?_toArray, List.getElem?_cons_succ, List.getElem?_cons_zero]; rfl
            case hf140 => kernel_rfl
            case hr140 => kernel_rfl
            case hw140 => rfl
            case hy140 => (intro w hSw; (try dsimp only at hSw); go_simp; all_goals (first | done | with_reducible rfl))
            case hQ140 => exact fun _ _ _ h => h
            simp only [Act.put, List.setIfInBounds_toArray, List.set_cons_zero, List.set_cons_succ]
            refine wpAnyH_take (i := 8) (oi := ?oi141) (v := ?v141) ?hi141 (by kernel_rfl) ?hf141 ?hr141 ?hQ141 (Or.inl ⟨?hw141, ?hy141⟩) (by assumption) ?rest141
            case hi141 => simp only [List.getElem?_toArray, List.getElem?_cons_succ, List.getElem?_cons_zero]; rfl
            case hf141 => kernel_rfl
            case hr141 => kernel_rfl
            case hw141 => rfl
            case hy141 => (intro w hSw; (try dsimp only at hSw); go_simp; all_goals (first | done | with_reducible rfl))
            case hQ141 => exact fun _ _ _ h => h
            simp only [Act.put, List.setIfInBounds_toArray, List.set_cons_zero, List.set_cons_succ]
            have HR9 := hid (below_setCellsX bx hbx [.string nm, .int .i64 g, .string tx, .int .i64 sq] 0 _ (HR5.out))
            have RB := hid ((KX5.out).storeX (vs := [.string nm, .int .i64 g, .string tx, .int .i64 sq]) rfl)
            have hth := (KX5.out).thereX
            refine wpAnyH_ready (rs := [10]) (by kernel_rfl) (by simp) ?_
            refine AllReadyH.cons (o := ?oi142) ?hi142 (fun K hK => ?step142) AllReadyH.nil
            case hi142 => simp only [List.getElem?_toArray, List.getElem?_cons_succ, List.getElem?_cons_zero]; rfl
            rw [if_pos (by rfl)]
            refine wp_store_mid 61 (.tmp 6) (.tmp 29) rfl bx 0 #[.string nm, .int .i64 g, .string tx, .int .i64 sq] (by rfl) (by rfl) hth Tryz.sizeRecordX (all_oneCell_toArray (cs := [.string nm, .int .i64 g, .string tx, .int .i64 sq]) (List.all_eq_true.1 rfl)) ?_
            refine hK.out _ _ (SF.out _ HR9.out) (fun hS => ?_)
            simp only [Act.put, List.setIfInBounds_toArray, List.set_cons_zero, List.set_cons_succ]
            refine wpAnyH_take (i := 11) (oi := ?oi143) (v := ?v143) ?hi143 (by kernel_rfl) ?hf143 ?hr143 ?hQ143 (Or.inl ⟨?hw143, ?hy143⟩) (by assumption) ?rest143
            case hi143 => simp only [List.getElem?_toArray, List.getElem?_cons_succ, List.getElem?_cons_zero]; rfl
            case hf143 => kernel_rfl
            case hr143 => kernel_rfl
            case hw143 => rfl
            case hy143 => (intro w hSw; (try dsimp only at hSw); go_simp; all_goals (first | done | with_reducible rfl))
            case hQ143 => exact fun _ _ _ h => h
            simp only [Act.put, List.setIfInBounds_toArray, List.set_cons_zero, List.set_cons_succ]
            refine wpAnyH_done (by kernel_rfl) ?_ _
            clear hS hth
            go_wp2_with fail
            go_meet
            case rel => exact ⟨_, rfl, rfl, hbx, RB.out, HR9.out⟩
        · have HR6 := hid ((HR0.out).alloc (HR0.out).size (.cells #[.string ⟨#[]⟩, .int .i64 0, .string ⟨#[]⟩, .int .i64 0] 61))
          have KX6 := hid (Blk.new wd #[.string ⟨#[]⟩, .int .i64 0, .string ⟨#[]⟩, .int .i64 0] 61)
          have hbx : w1.heap.size ≤ wd.heap.size := (HR0.out).size
          refine hK.out _ _ (SF.out _ HR6.out) (fun hS => ?_)
          generalize hbxx : wd.heap.size = bx at *
          generalize wd.alloc (.cells #[.string ⟨#[]⟩, .int .i64 0, .string ⟨#[]⟩, .int .i64 0] 61) = wx6 at *
          clear hbxx
          refine wpAnyH_ready (rs := [3]) (by kernel_rfl) (by simp) ?_
          refine AllReadyH.cons (o := ?oi144) ?hi144 (fun K hK => ?step144) AllReadyH.nil
          case hi144 => simp only [List.getElem?_toArray, List.getElem?_cons_succ, List.getElem?_cons_zero]; rfl
          rw [if_pos (by rfl)]
          go_simp
          go_at_call 75
          refine (CO.out _ (HB1.out.trans ((HR6.out).mono HB1.out.size))).mono ?_
          rintro e wa7 ⟨Aq, fq, cq, rfl, hF, hb⟩
          have HF7 := hid hF
          have HR7 := hid ((HR6.out).trans (hb.mono (HR6.out).size))
          have KX7 := hid ((KX6.out).to hb)
          clear hb hF
          refine hK.out _ _ (SF.out _ HR7.out) (fun hS => ?_)
          refine wpAnyH_ready (rs := [5]) (by kernel_rfl) (by simp) ?_
          refine AllReadyH.cons (o := ?oi145) ?hi145 (fun K hK => ?step145) AllReadyH.nil
          case hi145 => simp only [List.getElem?_toArray, List.getElem?_cons_succ, List.getElem?_cons_zero]; rfl
          rw [if_pos (by rfl)]
          go_simp
          go_at_call 74
          refine (CF.out _ _ _ _ (HF7.out)).mono ?_
          rintro e wa8 ⟨rfl, hb⟩
          have HR8 := hid ((HR7.out).trans (hb.mono (HR7.out).size))
          have KX8 := hid ((KX7.out).to hb)
          clear hb
          refine hK.out _ _ (SF.out _ HR8.out) (fun hS => ?_)
          refine wpAnyH_take (i := 6) (oi := ?oi146) (v := ?v146) ?hi146 (by kernel_rfl) ?hf146 ?hr146 ?hQ146 (Or.inl ⟨?hw146, ?hy146⟩) (by assumption) ?rest146
          case hi146 => simp only [List.getElem?_toArray, List.getElem?_cons_succ, List.getElem?_cons_zero]; rfl
          case hf146 => kernel_rfl
          case hr146 => kernel_rfl
          case hw146 => rfl
          case hy146 => (intro w hSw; (try dsimp only at hSw); go_simp; all_goals (first | done | with_reducible rfl))
          case hQ146 => exact fun _ _ _ h => h
          simp only [Act.put, List.setIfInBounds_toArray, List.set_cons_zero, List.set_cons_succ]
          refine wpAnyH_take (i := 7) (oi := ?oi147) (v := ?v147) ?hi147 (by kernel_rfl) ?hf147 ?hr147 ?hQ147 (Or.inl ⟨?hw147, ?hy147⟩) (by assumption) ?rest147
          case hi147 => simp only [List.getElem?_toArray, List.getElem?_cons_succ, List.getElem?_cons_zero]; rfl
          case hf147 => kernel_rfl
          case hr147 => kernel_rfl
          case hw147 => rfl
          case hy147 => (intro w hSw; (try dsimp only at hSw); go_simp; all_goals (first | done | with_reducible rfl))
          case hQ147 => exact fun _ _ _ h => h
          simp only [Act.put, List.setIfInBounds_toArray, List.set_cons_zero, List.set_cons_succ]
          refine wpAnyH_take (i := 8) (oi := ?oi148) (v := ?v148) ?hi148 (by kernel_rfl) ?hf148 ?hr148 ?hQ148 (Or.inl ⟨?hw148, ?hy148⟩) (by assumption) ?rest148
          case hi148 => simp only [List.getElem?_toArray, List.getElem?_cons_succ, List.getElem?_cons_zero]; rfl
          case hf148 => kernel_rfl
          case hr148 => kernel_rfl
          case hw148 => rfl
          case hy148 => (intro w hSw; (try dsimp only at hSw); go_simp; all_goals (first | done | with_reducible rfl))
          case hQ148 => exact fun _ _ _ h => h
          simp only [Act.put, List.setIfInBounds_toArray, List.set_cons_zero, List.set_cons_succ]
          have HR9 := hid (below_setCellsX bx hbx [.string nm, .int .i64 g, .string tx, .int .i64 sq] 0 _ (HR8.out))
          have RB := hid ((KX8.out).storeX (vs := [.string nm, .int .i64 g, .string tx, .int .i64 sq]) rfl)
          have hth := (KX8.out).thereX
          refine wpAnyH_ready (rs := [10]) (by kernel_rfl) (by simp) ?_
          refine AllReadyH.cons (o := ?oi149) ?hi149 (fun K hK => ?step149) AllReadyH.nil
          case hi149 => simp only [List.getElem?_toArray, List.getElem?_cons_succ, List.getElem?_cons_zero]; rfl
          rw [if_pos (by rfl)]
          refine wp_store_mid 61 (.tmp 6) (.tmp 29) rfl bx 0 #[.string nm, .int .i64 g, .string tx, .int .i64 sq] (by rfl) (by rfl) hth Tryz.sizeRecordX (all_oneCell_toArray (cs := [.string nm, .int .i64 g, .string tx, .int .i64 sq]) (List.all_eq_true.1 rfl)) ?_
          refine hK.out _ _ (SF.out _ HR9.out) (fun hS => ?_)
          simp only [Act.put, List.setIfInBounds_toArray, List.set_cons_zero, List.set_cons_succ]
          refine wpAnyH_take (i := 11) (oi := ?oi150) (v := ?v150) ?hi150 (by kernel_rfl) ?hf150 ?hr150 ?hQ150 (Or.inl ⟨?hw150, ?hy150⟩) (by assumption) ?rest150
          case hi150 => simp only [List.getElem?_toArray, List.getElem?_cons_succ, List.getElem?_cons_zero]; rfl
          case hf150 => kernel_rfl
          case hr150 => kernel_rfl
          case hw150 => rfl
          case hy150 => (intro w hSw; (try dsimp only at hSw); go_simp; all_goals (first | done | with_reducible rfl))
          case hQ150 => exact fun _ _ _ h => h
          simp only [Act.put, List.setIfInBounds_toArray, List.set_cons_zero, List.set_cons_succ]
          refine wpAnyH_done (by kernel_rfl) ?_ _
          clear hS hth
          go_wp2_with fail
          go_meet
          case rel => exact ⟨_, rfl, rfl, hbx, RB.out, HR9.out⟩
      case rest =>
        obtain ⟨bx, rfl, rfl, hbx, KX, HRc⟩ := hcut
        rename World => wq
        have HBc := hid (HB1.out.trans (HRc.out.mono HB1.out.size))
        have HOc := hid (own_below HO1.out HRc.out)
        have HTc := hid (HT1.out.to HRc.out)
        have HKc := hid (HK1.out.to HRc.out)
        have hbc : bx < wq.heap.size := KX.out.1
        have t0 := (HTc.out.2 0 _ rfl).1
        have t1 := (HTc.out.2 1 _ rfl).1
        have t2 := (HTc.out.2 2 _ rfl).1
        have d0 := (HKc.out.2 0 _ rfl).1
        go_wp2_with fail
        refine (CS.out _ HBc.out).mono ?_
        rintro e w5 ⟨vS, rfl, hoS, hb⟩
        obtain ⟨AS, cS, rfl, -, hcS⟩ := (Sl.of_own hoS).form
        unfold maxLen at hcS
        have HB5 := hid (HBc.out.trans (hb.mono HBc.out.size))
        have HX5 := hid (KX.out.to hb)
        have HT5 := hid (HTc.out.to hb)
        have HO5 := hid (own_below HOc.out (hb.mono (by have := HRc.out.size; omega)))
        have HS5 := hid hoS
        have h5s : wq.heap.size ≤ w5.heap.size := hb.size
        have HA0 := hid (show ∀ z, (Value.slice (some ⟨w.heap.size + 1 + 1, 0, none⟩) 0 0).ownBlock = some z → (Value.slice AS sp.length cS).ownBlock ≠ some z from fun z hz e => by
          have h1 := (hoS.lt z e).1
          simp [Value.ownBlock] at hz h1
          omega)
        have HX0 := hid (show ∀ z, (Value.slice (some ⟨w.heap.size + 1 + 1, 0, none⟩) 0 0).ownBlock = some z → z ≠ bx from fun z hz e => by
          simp [Value.ownBlock] at hz
          omega)
        clear hb hoS t0 t1 t2 d0 HRc HB1 HT1 HK1 HO1
        generalize hns : sp.length = ns at *
        have HNS := hid hns
        have hns30 : ns ≤ 30 := HSL.out
        clear hns
        have x0 := (HX5.out.2 0 _ rfl).1
        have x1 := (HX5.out.2 1 _ rfl).1
        have x2 := (HX5.out.2 2 _ rfl).1
        have x3 := (HX5.out.2 3 _ rfl).1
        by_cases hsp : ns = 0
        · subst hsp
          have hsp0 : sp = [] := List.length_eq_zero_iff.1 HNS.out
          have HE2 := hid (show Y = if 30 ≤ g then [⟨[], lastL, ⟨nm.data.toList, g, tx.data.toList, sq⟩⟩] else [] by rw [HE.out, HSX.out, if_pos hsp0]; exact HLAST.out sq g)
          clear hsp0
          by_cases h30 : 30 ≤ g
          · have HE3 := hid (show Y = [⟨[], lastL, ⟨nm.data.toList, g, tx.data.toList, sq⟩⟩] by rw [HE2.out, if_pos h30])
            go_wp2_with fail
            go_ret
            exact ⟨_, rfl, by rw [HE3.out]; exact own_base (show World.ownsRow (w5.alloc (.cells #[.string ⟨#[]⟩, .string ⟨#[108, 97, 115, 116]⟩, .string nm, .int .i64 g, .string tx, .int .i64 sq] 83)) w5.heap.size 83 6 (.slice (some ⟨w5.heap.size, 0, none⟩) 1 1) 1 [.string ⟨#[]⟩, .string ⟨#[108, 97, 115, 116]⟩, .string nm, .int .i64 g, .string tx, .int .i64 sq] from World.ownsRow_lit w5 #[.string ⟨#[]⟩, .string ⟨#[108, 97, 115, 116]⟩, .string nm, .int .i64 g, .string tx, .int .i64 sq] 1 (Nat.le_refl _) (by unfold maxLen; omega) rfl) HB5.out.size, HB5.out.alloc HB5.out.size _⟩
          · have HE3 := hid (show Y = [] by rw [HE2.out, if_neg h30])
            go_wp2_with fail
            go_loopw [5, 9] (fun ov iv wr => iv = .int .i64 0 ∧ ov = .slice (some ⟨w.heap.size + 1 + 1, 0, none⟩) 0 0 ∧ wr = w5) (fun _ _ _ => 0)
            case atStart => exact ⟨rfl, rfl, rfl⟩
            case round =>
              obtain ⟨rfl, rfl, hwr⟩ := hrel
              obtain rfl := hwr
              go_wp2_with fail
              go_ret
              exact ⟨_, rfl, by rw [HE3.out]; exact own_base HO5.out (by omega), HB5.out⟩
        · have q1 : ((ns : Int) == 0) = false := by simp; omega
          have HSP := hid (show SP = sp by rw [HSX.out, if_neg (fun e => hsp (by rw [← HNS.out, e]; rfl))])
          go_wp2_with fail
          go_loopw [5, 9] (fun ov iv wr => ∃ (k : Nat) (g' : Int) (x : List Snt), iv = .int .i64 k ∧ k ≤ ns ∧ 1 ≤ g' ∧ g' ≤ 60 ∧ Hid (lvAfter H nm.data.toList tx.data.toList (sp.take k) g = g') ∧ Hid (x = sentOf nm.data.toList tx.data.toList sq (outs H nm.data.toList tx.data.toList (sp.take k) g)) ∧ x.length ≤ k ∧ Hid (wr.ownsRow (w.heap.size + 1 + 1) 83 6 ov x.length (x.flatMap sncells)) ∧ Hid (wr.ownsRow wq.heap.size 128 2 (.slice AS ns cS) ns (sp.flatMap spcells)) ∧ Hid (∀ z, ov.ownBlock = some z → (Value.slice AS ns cS).ownBlock ≠ some z) ∧ Hid (∀ z, ov.ownBlock = some z → z ≠ bx) ∧ Hid (Blk wr bx [.string nm, .int .i64 g', .string tx, .int .i64 sq]) ∧ Hid (Blk wr w.heap.size [.slice (some ⟨b, o, none⟩) n1 k1, .slice A2 n2 k2, .int .i64 q]) ∧ Hid (Below w.heap.size w wr)) (fun _ iv _ => ns - (intOf iv).toNat)
          case atStart => exact ⟨0, g, [], rfl, by omega, g1, g2, rfl, rfl, by simp, HO5.out, HS5.out, HA0.out, HX0.out, HX5.out, HT5.out, HB5.out⟩
          case round =>
            obtain ⟨k, g', x, rfl, hk, hp1, hp2, HLv, HXk, hxl, HO, HS, HA, HX, HKx, HT, HB⟩ := hrel
            obtain ⟨Ax, cx, rfl, -, -⟩ := (Sl.of_own HO.out).form
            clear x0 x1 x2 x3
            by_cases hlt : k < ns
            · obtain ⟨bs, os, lg, hd, eA, hbs, hx1, e0, e1⟩ := spcells_at (Sl.of_own HS.out) hlt
              have hbs2 : wq.heap.size ≤ bs := (HS.out.lt bs (by rw [eA]; rfl)).1
              obtain ⟨hh, hH, hnd, hnl⟩ := HHH.out
              obtain ⟨j, hj, hix, hHj, hHn⟩ := hand_idx hH hnd (hld.out _ (List.mem_of_getElem? hx1))
              have hn2 : hs.length = n2 := Sl.count hcells_len hh.1 (by omega)
              obtain ⟨bh, oh, p, y, A4, fn, k4, eA2, hbh, hy, hps, hpz, hff, c0, c1, c2⟩ := handler_at (hh.below HB.out HBB.out) hH (k := j) (by omega)
              obtain rfl : y = hOf H hd.data.toList := by rw [hHj] at hy; exact (Option.some.inj hy).symm
              obtain rfl : p = hd := bytes_ext' (by rw [hps, hHn])
              have hcap2 := hh.1.cap
              unfold maxLen at hcap2
              have HAT := hid (fun (W : World) (hW : Below w.heap.size w W) => (show Calls Tryz.prog 77 #[.slice A2 n2 k2, .string p] W (fun e w' => e = .returned (.int .i64 ((j : Nat) : Int)) ∧ w' = W) from by have h9 := AT.out p W hW; rw [hix] at h9; exact h9))
              have HST := hid (sent_step (sq := sq) hx1 HLv.out)
              have CFh := fun (W : World) (hW : Below w.heap.size w W) (hF : Fs W B fn (.slice A4 fn k4) (hOf H p.data.toList).fs) => specFiltered_c (.slice A4 fn k4) fn B (hOf H p.data.toList).fs nm tx g' sq W hF (Nat.le_trans HBB.out hW.size) (filtersOk_all (HFO.out _)) hnm htx hp1 hp2
              have hjn : j < n2 := by omega
              have HFf := hid hff
              have hrg := askH_range (nm := nm.data.toList) (tx := tx.data.toList) (HFO.out p.data.toList) hp1 hp2
              have K1 := hid (fun (hq : g' < (hOf H p.data.toList).lv) => askH_low (nm := nm.data.toList) (tx := tx.data.toList) hq)
              have K2 := hid (fun (hq : ¬ g' < (hOf H p.data.toList).lv) (hf : filtL nm.data.toList tx.data.toList (hOf H p.data.toList).fs g' = none) => askH_drop hq hf)
              have K3 := hid (fun (z : Int) (hq : ¬ g' < (hOf H p.data.toList).lv) (hf : filtL nm.data.toList tx.data.toList (hOf H p.data.toList).fs g' = some z) => askH_sent (q := z) hq hf)
              clear hh hH hnd hnl hix hHj hHn hj hn2 hy hps hff hx1
              subst eA
              subst eA2
              generalize (hOf H p.data.toList).lv = hl at *
              have t0 := (HT.out.2 0 _ rfl).1
              have t1 := (HT.out.2 1 _ rfl).1
              have t2 := (HT.out.2 2 _ rfl).1
              have hwr0 : w.heap.size < wr.heap.size := HT.out.1
              have hbhr : bh < wr.heap.size := by have := HBB.out; omega
              have s0 : (0 : Int) ≤ (k : Int) := by omega
              have s1 : (k : Int) < (ns : Int) := by omega
              have s2 : ((k : Int)).toNat = k := by simp
              have r0 : (0 : Int) ≤ (j : Int) := by omega
              have r1 : (j : Int) < (n2 : Int) := by omega
              have r2 : ((j : Int)).toNat = j := by simp
              go_wp2_with fail
              have SG := hid (fun (W : World) (hR : Below wr.heap.size wr W) => (show (fun w' : World => w'.cell? ⟨w.heap.size, 0, none⟩ = some (.slice (some ⟨b, o, none⟩) n1 k1) ∧ w'.cell? ⟨w.heap.size, 1, none⟩ = some (.slice (some ⟨bh, oh, none⟩) n2 k2) ∧ w'.cell? ⟨w.heap.size, 2, none⟩ = some (.int .i64 q) ∧ w'.cell? ⟨bs, os + k * 2 + 1, none⟩ = some (.string p) ∧ w'.cell? ⟨bh, oh + j * 3, none⟩ = some (.string p) ∧ w'.cell? ⟨bh, oh + j * 3 + 1, none⟩ = some (.int .i64 hl) ∧ w'.cell? ⟨bh, oh + j * 3 + 2, none⟩ = some (.slice A4 fn k4)) W from ⟨((HT.out.to hR).2 0 _ rfl).1, ((HT.out.to hR).2 1 _ rfl).1, ((HT.out.to hR).2 2 _ rfl).1, (hR.cell (p := ⟨bs, _, none⟩) hbs).trans e1, (hR.cell (p := ⟨bh, _, none⟩) hbhr).trans c0, (hR.cell (p := ⟨bh, _, none⟩) hbhr).trans c1, (hR.cell (p := ⟨bh, _, none⟩) hbhr).trans c2⟩))
              have E0 := hid e0
              clear e0 e1 c0 c1 c2
              go_cut [10] from 49 to 92 (fun hv wd => ∃ bz, hv = .pointer (some ⟨bz, 0, none⟩) ∧ wr.heap.size ≤ bz ∧ Hid (Blk wd bz [.string p, .int .i64 hl, .slice A4 fn k4]) ∧ Hid (Below wr.heap.size wr wd))
              case first =>
                have HR0 := hid ((Below.refl wr.heap.size wr).drew)
                refine wp_region_held_drew (S := fun w' : World => w'.cell? ⟨w.heap.size, 0, none⟩ = some (.slice (some ⟨b, o, none⟩) n1 k1) ∧ w'.cell? ⟨w.heap.size, 1, none⟩ = some (.slice (some ⟨bh, oh, none⟩) n2 k2) ∧ w'.cell? ⟨w.heap.size, 2, none⟩ = some (.int .i64 q) ∧ w'.cell? ⟨bs, os + k * 2 + 1, none⟩ = some (.string p) ∧ w'.cell? ⟨bh, oh + j * 3, none⟩ = some (.string p) ∧ w'.cell? ⟨bh, oh + j * 3 + 1, none⟩ = some (.int .i64 hl) ∧ w'.cell? ⟨bh, oh + j * 3 + 2, none⟩ = some (.slice A4 fn k4)) (by kernel_rfl) (SG.out _ HR0.out) (fun hS => ?_)
                refine wpAnyH_take (i := 0) (oi := ?oi151) (v := ?v151) ?hi151 (by kernel_rfl) ?hf151 ?hr151 ?hQ151 (Or.inl ⟨?hw151, ?hy151⟩) (by assumption) ?rest151
                case hi151 => simp only [List.getElem?_toArray, List.getElem?_cons_succ, List.getElem?_cons_zero]; rfl
                case hf151 => kernel_rfl
                case hr151 => kernel_rfl
                case hw151 => rfl
                case hy151 => (intro w hSw; (try dsimp only at hSw); go_simp; all_goals (first | done | with_reducible rfl))
                case hQ151 => exact fun _ _ _ h => h
                simp only [Act.put, List.setIfInBounds_toArray, List.set_cons_zero, List.set_cons_succ]
                refine wpAnyH_take (i := 1) (oi := ?oi152) (v := ?v152) ?hi152 (by kernel_rfl) ?hf152 ?hr152 ?hQ152 (Or.inl ⟨?hw152, ?hy152⟩) (by assumption) ?rest152
                case hi152 => simp only [List.getElem?_toArray, List.getElem?_cons_succ, List.getElem?_cons_zero]; rfl
                case hf152 => kernel_rfl
                case hr152 => kernel_rfl
                case hw152 => rfl
                case hy152 => (intro w hSw; (try dsimp only at hSw); go_simp; all_goals (first | done | with_reducible rfl))
                case hQ152 => exact fun _ _ _ h => h
                simp only [Act.put, List.setIfInBounds_toArray, List.set_cons_zero, List.set_cons_succ]
                refine wpAnyH_take (i := 2) (oi := ?oi153) (v := ?v153) ?hi153 (by kernel_rfl) ?hf153 ?hr153 ?hQ153 (Or.inl ⟨?hw153, ?hy153⟩) (by assumption) ?rest153
                case hi153 => simp only [List.getElem?_toArray, List.getElem?_cons_succ, List.getElem?_cons_zero]; rfl
                case hf153 => kernel_rfl
                case hr153 => kernel_rfl
                case hw153 => rfl
                case hy153 => (intro w hSw; (try dsimp only at hSw); go_simp; all_goals (first | done | with_reducible rfl))
                case hQ153 => exact fun _ _ _ h => h
                simp only [Act.put, List.setIfInBounds_toArray, List.set_cons_zero, List.set_cons_succ]
                refine wpAnyH_take (i := 3) (oi := ?oi154) (v := ?v154) ?hi154 (by kernel_rfl) ?hf154 ?hr154 ?hQ154 (Or.inl ⟨?hw154, ?hy154⟩) (by assumption) ?rest154
                case hi154 => simp only [List.getElem?_toArray, List.getElem?_cons_succ, List.getElem?_cons_zero]; rfl
                case hf154 => kernel_rfl
                case hr154 => kernel_rfl
                case hw154 => rfl
                case hy154 => (intro w hSw; (try dsimp only at hSw); go_simp; all_goals (first | done | with_reducible rfl))
                case hQ154 => exact fun _ _ _ h => h
                simp only [Act.put, List.setIfInBounds_toArray, List.set_cons_zero, List.set_cons_succ]
                refine wpAnyH_take (i := 4) (oi := ?oi155) (v := ?v155) ?hi155 (by kernel_rfl) ?hf155 ?hr155 ?hQ155 (Or.inl ⟨?hw155, ?hy155⟩) (by assumption) ?rest155
                case hi155 => simp only [List.getElem?_toArray, List.getElem?_cons_succ, List.getElem?_cons_zero]; rfl
                case hf155 => kernel_rfl
                case hr155 => kernel_rfl
                case hw155 => rfl
                case hy155 => (intro w hSw; (try dsimp only at hSw); go_simp; all_goals (first | done | with_reducible rfl))
                case hQ155 => exact fun _ _ _ h => h
                simp only [Act.put, List.setIfInBounds_toArray, List.set_cons_zero, List.set_cons_succ]
                refine wpAnyH_take (i := 5) (oi := ?oi156) (v := ?v156) ?hi156 (by kernel_rfl) ?hf156 ?hr156 ?hQ156 (Or.inl ⟨?hw156, ?hy156⟩) (by assumption) ?rest156
                case hi156 => simp only [List.getElem?_toArray, List.getElem?_cons_succ, List.getElem?_cons_zero]; rfl
                case hf156 => kernel_rfl
                case hr156 => kernel_rfl
                case hw156 => rfl
                case hy156 => (intro w hSw; (try dsimp only at hSw); go_simp; all_goals (first | done | with_reducible rfl))
                case hQ156 => exact fun _ _ _ h => h
                simp only [Act.put, List.setIfInBounds_toArray, List.set_cons_zero, List.set_cons_succ]
                refine wpAnyH_take (i := 6) (oi := ?oi157) (v := ?v157) ?hi157 (by kernel_rfl) ?hf157 ?hr157 ?hQ157 (Or.inl ⟨?hw157, ?hy157⟩) (by assumption) ?rest157
                case hi157 => simp only [List.getElem?_toArray, List.getElem?_cons_succ, List.getElem?_cons_zero]; rfl
                case hf157 => kernel_rfl
                case hr157 => kernel_rfl
                case hw157 => rfl
                case hy157 => (intro w hSw; (try dsimp only at hSw); go_simp; all_goals (first | done | with_reducible rfl))
                case hQ157 => exact fun _ _ _ h => h
                simp only [Act.put, List.setIfInBounds_toArray, List.set_cons_zero, List.set_cons_succ]
                refine wpAnyH_take (i := 7) (oi := ?oi158) (v := ?v158) ?hi158 (by kernel_rfl) ?hf158 ?hr158 ?hQ158 (Or.inl ⟨?hw158, ?hy158⟩) (by assumption) ?rest158
                case hi158 => simp only [List.getElem?_toArray, List.getElem?_cons_succ, List.getElem?_cons_zero]; rfl
                case hf158 => kernel_rfl
                case hr158 => kernel_rfl
                case hw158 => rfl
                case hy158 => (intro w hSw; (try dsimp only at hSw); go_simp; all_goals (first | done | with_reducible rfl))
                case hQ158 => exact fun _ _ _ h => h
                simp only [Act.put, List.setIfInBounds_toArray, List.set_cons_zero, List.set_cons_succ]
                refine wpAnyH_take (i := 8) (oi := ?oi159) (v := ?v159) ?hi159 (by kernel_rfl) ?hf159 ?hr159 ?hQ159 (Or.inl ⟨?hw159, ?hy159⟩) (by assumption) ?rest159
                case hi159 => simp only [List.getElem?_toArray, List.getElem?_cons_succ, List.getElem?_cons_zero]; rfl
                case hf159 => kernel_rfl
                case hr159 => kernel_rfl
                case hw159 => rfl
                case hy159 => (intro w hSw; (try dsimp only at hSw); go_simp; all_goals (first | done | with_reducible rfl))
                case hQ159 => exact fun _ _ _ h => h
                simp only [Act.put, List.setIfInBounds_toArray, List.set_cons_zero, List.set_cons_succ]
                generalize hwd : wr.drew = wd at *
                clear hwd
                refine wpAnyH_ready (rs := [9, 12]) (by kernel_rfl) (by simp) ?_
                refine AllReadyH.cons (o := ?oi160) ?hi160 (fun K hK => ?stepA160) (AllReadyH.cons (o := ?oj160) ?hj160 (fun K hK => ?stepB160) AllReadyH.nil)
                case hi160 => simp only [List.getElem?_toArray, List.getElem?_cons_succ, List.getElem?_cons_zero]; rfl
                case hj160 => simp only [List.getElem?_toArray, List.getElem?_cons_succ, List.getElem?_cons_zero]; rfl
                all_goals rw [if_pos (by rfl)]
                all_goals go_simp
                · go_at_call 77
                  refine (HAT.out _ (HB.out.trans (HR0.out.mono HB.out.size))).mono ?_
                  rintro e wa ⟨rfl, h9⟩
                  subst h9
                  refine hK.out _ _ (SG.out _ HR0.out) (fun hS => ?_)
                  refine wpAnyH_take (i := 10) (oi := ?oi161) (v := ?v161) ?hi161 (by kernel_rfl) ?hf161 ?hr161 ?hQ161 (Or.inl ⟨?hw161, ?hy161⟩) (by assumption) ?rest161
                  case hi161 => simp only [List.getElem?_toArray, List.getElem?_cons_succ, List.getElem?_cons_zero]; rfl
                  case hf161 => kernel_rfl
                  case hr161 => kernel_rfl
                  case hw161 => rfl
                  case hy161 => (intro w hSw; (try dsimp only at hSw); go_simp; all_goals (first | done | with_reducible rfl))
                  case hQ161 => exact fun _ _ _ h => h
                  simp only [Act.put, List.setIfInBounds_toArray, List.set_cons_zero, List.set_cons_succ]
                  refine wpAnyH_take (i := 11) (oi := ?oi162) (v := ?v162) ?hi162 (by kernel_rfl) ?hf162 ?hr162 ?hQ162 (Or.inl ⟨?hw162, ?hy162⟩) (by assumption) ?rest162
                  case hi162 => simp only [List.getElem?_toArray, List.getElem?_cons_succ, List.getElem?_cons_zero]; rfl
                  case hf162 => kernel_rfl
                  case hr162 => kernel_rfl
                  case hw162 => rfl
                  case hy162 => (intro w hSw; (try dsimp only at hSw); go_simp; all_goals (first | done | with_reducible rfl))
                  case hQ162 => exact fun _ _ _ h => h
                  simp only [Act.put, List.setIfInBounds_toArray, List.set_cons_zero, List.set_cons_succ]
                  refine wpAnyH_ready (rs := [12]) (by kernel_rfl) (by simp) ?_
                  refine AllReadyH.cons (o := ?oi163) ?hi163 (fun K hK => ?step163) AllReadyH.nil
                  case hi163 => simp only [List.getElem?_toArray, List.getElem?_cons_succ, List.getElem?_cons_zero]; rfl
                  rw [if_pos (by rfl)]
                  go_simp
                  have HR2 := hid (HR0.out.alloc HR0.out.size (.cells #[.string ⟨#[]⟩, .int .i64 0, .slice none 0 0] 125))
                  have KX9 := hid (Blk.new wa #[.string ⟨#[]⟩, .int .i64 0, .slice none 0 0] 125)
                  have hbz : wr.heap.size ≤ wa.heap.size := HR0.out.size
                  refine hK.out _ _ (SG.out _ HR2.out) (fun hS => ?_)
                  have HR3 := hid (below_setCellsX wa.heap.size hbz [.string p, .int .i64 hl, .slice A4 fn k4] 0 _ HR2.out)
                  have RB := hid (KX9.out.storeX (vs := [.string p, .int .i64 hl, .slice A4 fn k4]) rfl)
                  have hth := KX9.out.thereX
                  refine wpAnyH_ready (rs := [13]) (by kernel_rfl) (by simp) ?_
                  refine AllReadyH.cons (o := ?oi164) ?hi164 (fun K hK => ?step164) AllReadyH.nil
                  case hi164 => simp only [List.getElem?_toArray, List.getElem?_cons_succ, List.getElem?_cons_zero]; rfl
                  rw [if_pos (by rfl)]
                  refine wp_store_mid 125 (.tmp 10) (.tmp 66) rfl wa.heap.size 0 #[.string p, .int .i64 hl, .slice A4 fn k4] (by rfl) (by rfl) hth Tryz.sizeHandlerX (all_oneCell_toArray (cs := [.string p, .int .i64 hl, .slice A4 fn k4]) (List.all_eq_true.1 rfl)) ?_
                  refine hK.out _ _ (SG.out _ HR3.out) (fun hS => ?_)
                  simp only [Act.put, List.setIfInBounds_toArray, List.set_cons_zero, List.set_cons_succ]
                  refine wpAnyH_done (by kernel_rfl) ?_ _
                  clear hS hth
                  go_wp2_with fail
                  go_meet
                  case rel => exact ⟨_, rfl, hbz, RB.out, HR3.out⟩
                · have HR1 := hid (HR0.out.alloc HR0.out.size (.cells #[.string ⟨#[]⟩, .int .i64 0, .slice none 0 0] 125))
                  have KX9 := hid (Blk.new wd #[.string ⟨#[]⟩, .int .i64 0, .slice none 0 0] 125)
                  have hbz : wr.heap.size ≤ wd.heap.size := HR0.out.size
                  refine hK.out _ _ (SG.out _ HR1.out) (fun hS => ?_)
                  refine wpAnyH_ready (rs := [9]) (by kernel_rfl) (by simp) ?_
                  refine AllReadyH.cons (o := ?oi165) ?hi165 (fun K hK => ?step165) AllReadyH.nil
                  case hi165 => simp only [List.getElem?_toArray, List.getElem?_cons_succ, List.getElem?_cons_zero]; rfl
                  rw [if_pos (by rfl)]
                  go_simp
                  go_at_call 77
                  refine (HAT.out _ (HB.out.trans (HR1.out.mono HB.out.size))).mono ?_
                  rintro e wa ⟨rfl, h9⟩
                  subst h9
                  refine hK.out _ _ (SG.out _ HR1.out) (fun hS => ?_)
                  refine wpAnyH_take (i := 10) (oi := ?oi166) (v := ?v166) ?hi166 (by kernel_rfl) ?hf166 ?hr166 ?hQ166 (Or.inl ⟨?hw166, ?hy166⟩) (by assumption) ?rest166
                  case hi166 => simp only [List.getElem?_toArray, List.getElem?_cons_succ, List.getElem?_cons_zero]; rfl
                  case hf166 => kernel_rfl
                  case hr166 => kernel_rfl
                  case hw166 => rfl
                  case hy166 => (intro w hSw; (try dsimp only at hSw); go_simp; all_goals (first | done | with_reducible rfl))
                  case hQ166 => exact fun _ _ _ h => h
                  simp only [Act.put, List.setIfInBounds_toArray, List.set_cons_zero, List.set_cons_succ]
                  refine wpAnyH_take (i := 11) (oi := ?oi167) (v := ?v167) ?hi167 (by kernel_rfl) ?hf167 ?hr167 ?hQ167 (Or.inl ⟨?hw167, ?hy167⟩) (by assumption) ?rest167
                  case hi167 => simp only [List.getElem?_toArray, List.getElem?_cons_succ, List.getElem?_cons_zero]; rfl
                  case hf167 => kernel_rfl
                  case hr167 => kernel_rfl
                  case hw167 => rfl
                  case hy167 => (intro w hSw; (try dsimp only at hSw); go_simp; all_goals (first | done | with_reducible rfl))
                  case hQ167 => exact fun _ _ _ h => h
                  simp only [Act.put, List.setIfInBounds_toArray, List.set_cons_zero, List.set_cons_succ]
                  have HR3 := hid (below_setCellsX wd.heap.size hbz [.string p, .int .i64 hl, .slice A4 fn k4] 0 _ HR1.out)
                  have RB := hid (KX9.out.storeX (vs := [.string p, .int .i64 hl, .slice A4 fn k4]) rfl)
                  have hth := KX9.out.thereX
                  refine wpAnyH_ready (rs := [13]) (by kernel_rfl) (by simp) ?_
                  refine AllReadyH.cons (o := ?oi168) ?hi168 (fun K hK => ?step168) AllReadyH.nil
                  case hi168 => simp only [List.getElem?_toArray, List.getElem?_cons_succ, List.getElem?_cons_zero]; rfl
                  rw [if_pos (by rfl)]
                  refine wp_store_mid 125 (.tmp 10) (.tmp 66) rfl wd.heap.size 0 #[.string p, .int .i64 hl, .slice A4 fn k4] (by rfl) (by rfl) hth Tryz.sizeHandlerX (all_oneCell_toArray (cs := [.string p, .int .i64 hl, .slice A4 fn k4]) (List.all_eq_true.1 rfl)) ?_
                  refine hK.out _ _ (SG.out _ HR3.out) (fun hS => ?_)
                  simp only [Act.put, List.setIfInBounds_toArray, List.set_cons_zero, List.set_cons_succ]
                  refine wpAnyH_done (by kernel_rfl) ?_ _
                  clear hS hth
                  go_wp2_with fail
                  go_meet
                  case rel => exact ⟨_, rfl, hbz, RB.out, HR3.out⟩
              case rest =>
                obtain ⟨bz, rfl, hbz, KZ, HRd⟩ := hcut
                have HBd := hid (HB.out.trans (HRd.out.mono HB.out.size))
                have HOd := hid (own_below HO.out HRd.out)
                have HSd := hid (own_below HS.out HRd.out)
                have HKd := hid (HKx.out.to HRd.out)
                have HTd := hid (HT.out.to HRd.out)
                have hbxr : bx < wr.heap.size := HKx.out.1
                have e0d := hid ((HRd.out.cell (p := ⟨bs, os + k * 2, none⟩) hbs).trans E0.out)
                have hAxz := hid (show ∀ z, (Value.slice Ax x.length cx).ownBlock = some z → z < wr.heap.size from fun z hz => (HO.out.lt z hz).2)
                have hASz : bs < wr.heap.size := hbs
                clear t0 t1 t2
                have x0 := (HKd.out.2 0 _ rfl).1
                have x1 := (HKd.out.2 1 _ rfl).1
                have x2 := (HKd.out.2 2 _ rfl).1
                have x3 := (HKd.out.2 3 _ rfl).1
                have z0 := (KZ.out.2 0 _ rfl).1
                have z1 := (KZ.out.2 1 _ rfl).1
                have z2 := (KZ.out.2 2 _ rfl).1
                by_cases hq : g' < hl
                · rw [K1.out hq] at HST
                  have HST' := hid (show sentOf nm.data.toList tx.data.toList sq (outs H nm.data.toList tx.data.toList (sp.take (k + 1)) g) = x ∧ lvAfter H nm.data.toList tx.data.toList (sp.take (k + 1)) g = g' from ⟨by rw [HST.out.1, HXk.out]; simp, HST.out.2⟩)
                  go_wp2_with fail
                  go_roundw
                  case rel => exact ⟨k + 1, g', x, by go_num, by omega, hp1, hp2, HST'.out.2, HST'.out.1.symm, by omega, HOd.out, HSd.out, HA.out, HX.out, HKd.out, HTd.out, HBd.out⟩
                  case measure => simp [intOf]; omega
                · have HF1 := CFh _ HBd.out ⟨HFf.out.1.below (HRd.out) (Nat.le_trans HBB.out HB.out.size), HFf.out.2⟩
                  cases hfi : filtL nm.data.toList tx.data.toList (hOf H p.data.toList).fs g' with
                  | none =>
                    rw [K2.out (by omega) hfi] at HST
                    have HST' := hid (show sentOf nm.data.toList tx.data.toList sq (outs H nm.data.toList tx.data.toList (sp.take (k + 1)) g) = x ∧ lvAfter H nm.data.toList tx.data.toList (sp.take (k + 1)) g = g' from ⟨by rw [HST.out.1, HXk.out]; simp, HST.out.2⟩)
                    rw [hfi] at HF1
                    have HF2 := hid (show Calls _ _ _ _ (fun e w' => e = .returned (.tuple #[.agg #[.string ⟨#[]⟩, .int .i64 0, .string ⟨#[]⟩, .int .i64 0], .bool false]) ∧ Below wc.heap.size wc w') from HF1)
                    clear HF1 CFh hfi
                    go_wp2_with fail
                    refine (HF2.out).mono ?_
                    rintro e w7 ⟨rfl, hb⟩
                    have HB7 := hid (HBd.out.trans (hb.mono HBd.out.size))
                    have HO7 := hid (own_below HOd.out hb)
                    have HS7 := hid (own_below HSd.out hb)
                    have HK7 := hid (HKd.out.to hb)
                    have HT7 := hid (HTd.out.to hb)
                    clear hb x0 x1 x2 x3 z0 z1 z2
                    go_wp2_with fail
                    go_roundw
                    case rel => exact ⟨k + 1, g', x, by go_num, by omega, hp1, hp2, HST'.out.2, HST'.out.1.symm, by omega, HO7.out.alloc _, HS7.out.alloc _, HA.out, HX.out, HK7.out.alloc _, HT7.out.alloc _, HB7.out.alloc HB7.out.size _⟩
                    case measure => simp [intOf]; omega
                  | some ga =>
                    rw [K3.out ga (by omega) hfi] at HST hrg
                    obtain ⟨a1, a2⟩ : 1 ≤ ga ∧ ga ≤ 60 := hrg
                    have HST' := hid (show sentOf nm.data.toList tx.data.toList sq (outs H nm.data.toList tx.data.toList (sp.take (k + 1)) g) = x ++ [⟨lg.data.toList, p.data.toList, ⟨nm.data.toList, ga, tx.data.toList, sq⟩⟩] ∧ lvAfter H nm.data.toList tx.data.toList (sp.take (k + 1)) g = ga from ⟨by rw [HST.out.1, HXk.out]; rfl, HST.out.2⟩)
                    rw [hfi] at HF1
                    have HF2 := hid (show Calls _ _ _ _ (fun e w' => e = .returned (.tuple #[.agg #[.string nm, .int .i64 ga, .string tx, .int .i64 sq], .bool true]) ∧ Below wc.heap.size wc w') from HF1)
                    clear HF1 CFh hfi
                    go_wp2_with fail
                    refine (HF2.out).mono ?_
                    rintro e w7 ⟨rfl, hb⟩
                    have HB7 := hid ((HBd.out.trans (hb.mono HBd.out.size)).alloc (Nat.le_trans HBd.out.size hb.size) (.cells #[.string nm, .int .i64 ga, .string tx, .int .i64 sq] 61))
                    have HO7 := hid ((own_below HOd.out hb).alloc (.cells #[.string nm, .int .i64 ga, .string tx, .int .i64 sq] 61))
                    have HS7 := hid ((own_below HSd.out hb).alloc (.cells #[.string nm, .int .i64 ga, .string tx, .int .i64 sq] 61))
                    have HK7 := hid ((HKd.out.to hb).alloc (.cells #[.string nm, .int .i64 ga, .string tx, .int .i64 sq] 61))
                    have HT7 := hid ((HTd.out.to hb).alloc (.cells #[.string nm, .int .i64 ga, .string tx, .int .i64 sq] 61))
                    have HZ7 := hid ((KZ.out.to hb).alloc (.cells #[.string nm, .int .i64 ga, .string tx, .int .i64 sq] 61))
                    have HN7 := hid (Blk.new w7 #[.string nm, .int .i64 ga, .string tx, .int .i64 sq] 61)
                    have hws : wr.heap.size ≤ wc.heap.size := HRd.out.size
                    have hb7 : wc.heap.size ≤ w7.heap.size := hb.size
                    have e7 := hid ((((Below.refl wc.heap.size wc).trans hb).alloc hb.size (.cells #[.string nm, .int .i64 ga, .string tx, .int .i64 sq] 61)).cell (p := ⟨bs, os + k * 2, none⟩) (show bs < _ by omega) |>.trans e0d.out)
                    clear hb x0 x1 x2 x3 z0 z1 z2
                    go_wp2_with fail
                    generalize hw8 : w7.alloc (.cells #[.string nm, .int .i64 ga, .string tx, .int .i64 sq] 61) = w8 at *
                    have h8s : w8.heap.size = w7.heap.size + 1 := by rw [← hw8]; simp
                    generalize hbn : w7.heap.size = bn at *
                    have hwz : wr.heap.size ≤ bn := by omega
                    have h8b : w.heap.size + 1 + 1 ≤ w8.heap.size := by omega
                    obtain ⟨v', w4, hrun, ho4, hg4, hloc⟩ := runSent w8 (w.heap.size + 1 + 1) _ x HO7.out lg p nm tx ga sq (by omega) h8b
                    have HR9 := hid hrun
                    have HO9 := hid ho4
                    have HA9 := hid (apart_kept HS7.out HA.out hg4 hloc)
                    have HB9 := hid (HB7.out.grown hg4 HB7.out.size (fun z hz => by have := own_lt HO7.out z hz; omega))
                    have HK9 := hid (HK7.out.kept hg4 (fun e => HX.out bx e.symm rfl))
                    have HT9 := hid (HT7.out.kept hg4 (fun e => by have := own_lt HO7.out _ e.symm; omega))
                    have HZ9 := hid (HZ7.out.kept hg4 (fun e => by have := hAxz.out bz e.symm; omega))
                    have HN9 := hid (HN7.out.kept hg4 (fun e => by have := hAxz.out bn e.symm; omega))
                    have HX9 := hid (show ∀ z, v'.ownBlock = some z → z ≠ bx from fun z hz => by
                      rcases hloc with h | h
                      · exact HX.out z (h.symm.trans hz)
                      · rw [h] at hz
                        have h1 : w8.heap.size + 1 = z := by simpa using hz
                        omega)
                    have hnebs : some bs ≠ (Value.slice Ax x.length cx).ownBlock := fun e => HA.out bs e.symm rfl
                    have hbs8 : bs < w8.heap.size := by omega
                    have hbz8 : bz < w8.heap.size := HZ7.out.1
                    have hbn8 : bn < w8.heap.size := HN7.out.1
                    have e9 : w4.cell? ⟨bs, os + k * 2, none⟩ = some (.string lg) := (World.cell?_of_block (a := ⟨bs, os + k * 2, none⟩) (by first | exact hg4.block bs hbs8 hnebs | exact hg4.block bs hbs8 (fun e => hnebs e.symm))).trans e7.out
                    have S4 := hid (And.intro e9 (And.intro (HZ9.out.2 0 _ rfl).1 (And.intro (HN9.out.2 0 _ rfl).1 (And.intro (HN9.out.2 1 _ rfl).1 (And.intro (HN9.out.2 2 _ rfl).1 (HN9.out.2 3 _ rfl).1)))))
                    have f0 := e7.out
                    have z0 := (HZ7.out.2 0 _ rfl).1
                    have y0 := (HN7.out.2 0 _ rfl).1
                    have y1 := (HN7.out.2 1 _ rfl).1
                    have y2 := (HN7.out.2 2 _ rfl).1
                    have y3 := (HN7.out.2 3 _ rfl).1
                    have HWB := hid (And.intro hbn (And.intro hw8 h8s))
                    clear e9 hrun ho4 hg4 hloc hnebs hw8 hbn h8s
                    go_wp2_with fail
                    go_region_held3 (fun w' => w'.cell? ⟨bs, os + k * 2, none⟩ = some (.string lg) ∧ w'.cell? ⟨bz, 0, none⟩ = some (.string p) ∧ w'.cell? ⟨bn, 0, none⟩ = some (.string nm) ∧ w'.cell? ⟨bn, 1, none⟩ = some (.int .i64 ga) ∧ w'.cell? ⟨bn, 2, none⟩ = some (.string tx) ∧ w'.cell? ⟨bn, 3, none⟩ = some (.int .i64 sq)) (first | go_keep | exact S4.out) (first | (refine wp_app rfl (by rfl) (by rfl) HR9.out ?_))
                    clear f0 z0 y0 y1 y2 y3
                    have y0 := (HN9.out.2 0 _ rfl).1
                    have y1 := (HN9.out.2 1 _ rfl).1
                    have y2 := (HN9.out.2 2 _ rfl).1
                    have y3 := (HN9.out.2 3 _ rfl).1
                    go_wp2_with (refine wpList_stB (P := Tryz.prog) rfl 61 _ _ rfl bx [.string nm, .int .i64 ga, .string tx, .int .i64 sq] rfl rfl _ HK9.out rfl (by kernel_rfl) (List.all_eq_true.1 rfl) ?_)
                    intro w6 hk6 hg6 hs6
                    have HK6 := hid hk6
                    have HO6 := hid (own_keptX HO9.out hg6 HX9.out)
                    have HS6 := hid (own_keptX HA9.out.1 hg6 (fun z hz => by have := own_lt HA9.out.1 z hz; omega))
                    have HT6 := hid (HT9.out.kept hg6 (by simp; omega))
                    have HB6 := hid (HB9.out.grown hg6 HB9.out.size (by intro z hz; cases hz; omega))
                    clear hk6 hg6 hs6 y0 y1 y2 y3
                    go_wp2_with fail
                    go_roundw
                    case rel => exact ⟨k + 1, ga, _, by go_num, by omega, a1, a2, HST'.out.2, HST'.out.1.symm, by rw [List.length_append]; show x.length + 1 ≤ _; omega, HO6.out, HS6.out, HA9.out.2, HX9.out, HK6.out, HT6.out, HB6.out⟩
                    case measure => simp [intOf]; omega
            · have HF := hid (show Y = x by rw [HE.out, HSP.out, HXk.out, List.take_of_length_le (by have := HNS.out; omega)])
              go_wp2_with fail
              go_ret
              exact ⟨_, rfl, by rw [HF.out]; exact own_base HO.out (by omega), HB.out⟩
end Go.Proofs.YtlifaeleoiodkaaGreatDoor
