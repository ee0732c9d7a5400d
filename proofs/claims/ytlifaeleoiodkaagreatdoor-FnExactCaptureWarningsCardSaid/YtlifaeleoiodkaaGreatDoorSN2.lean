/-
  RECORDS SENT: the program's enter: what the record's own logger makes of it. By gen_sn2.py.
-/
import Derived.Test.YtlifaeleoiodkaaGreatDoorSN1
import Derived.Test.YtlifaeleoiodkaaGreatDoorUM
import Derived.Test.YtlifaeleoiodkaaGreatDoorStB
namespace Go.Proofs.YtlifaeleoiodkaaGreatDoor
open Go.RowKit Go.Proofs.YtlifaeleoiodkaaGreatDoor.Nm
set_option linter.unusedSimpArgs false
set_option linter.unusedVariables false

theorem ent_off {L : List Lgr} {q : Int} {nm tx : List UInt8} {lv : Int} (h : offT L nm = true) : entX L q nm tx lv = (1, lv) := by unfold entX; rw [if_pos h]
theorem ent_quiet {L : List Lgr} {q : Int} {nm tx : List UInt8} {lv : Int} (h : offT L nm = false) (hq : lv ≤ q) : entX L q nm tx lv = (2, lv) := by unfold entX; rw [if_neg (by rw [h]; simp), if_pos hq]
theorem ent_level {L : List Lgr} {q : Int} {nm tx : List UInt8} {lv : Int} (h : offT L nm = false) (hq : ¬ lv ≤ q) (hl : lv < levelN (nsOf L) (lvAt L) nm) : entX L q nm tx lv = (3, lv) := by unfold entX; rw [if_neg (by rw [h]; simp), if_neg hq, if_pos hl]
theorem ent_filter {L : List Lgr} {q : Int} {nm tx : List UInt8} {lv : Int} (h : offT L nm = false) (hq : ¬ lv ≤ q) (hl : ¬ lv < levelN (nsOf L) (lvAt L) nm) (hf : filtL nm tx (ownF L nm) lv = none) : entX L q nm tx lv = (4, lv) := by unfold entX; rw [if_neg (by rw [h]; simp), if_neg hq, if_neg hl, hf]
theorem ent_sent {L : List Lgr} {q : Int} {nm tx : List UInt8} {lv v : Int} (h : offT L nm = false) (hq : ¬ lv ≤ q) (hl : ¬ lv < levelN (nsOf L) (lvAt L) nm) (hf : filtL nm tx (ownF L nm) lv = some v) : entX L q nm tx lv = (0, v) := by unfold entX; rw [if_neg (by rw [h]; simp), if_neg hq, if_neg hl, hf]
theorem own_ok {L : List Lgr} {H : List Hnd} {t : Int} (ht : treeOk L H t = true) (x : List UInt8) : filtersOk (ownF L x) = true := by
  unfold ownF
  split
  · unfold fsAt
    by_cases hk : nearN (nsOf L) x < L.length
    · have e2 : (L.map (·.fs)).getD (nearN (nsOf L) x) [] = L[nearN (nsOf L) x].fs := by simp [List.getD, hk]
      rw [e2]
      unfold treeOk lgrsOk at ht
      simp only [Bool.and_eq_true, List.all_eq_true] at ht
      have := ht.2.2.1 _ (List.getElem_mem hk)
      unfold lgrOk at this
      simp only [Bool.and_eq_true] at this
      exact this.2.2.1
    · simp [List.getD, hk, filtersOk]
  · rfl
theorem Fs.none_ (w : World) (B : Nat) : Fs w B 0 (.slice none 0 0) [] := ⟨⟨by simp [fsCells], none, 0, rfl, Nat.le_refl _, Nat.zero_le _, fun h => by omega⟩, fun f hf => by cases hf⟩
set_option maxHeartbeats 8000000 in
set_option maxRecDepth 100000 in
theorem enter_c {w : World} {B : Nat} {v : Value} {L : List Lgr} {H : List Hnd} {q : Int} (nm tx : ByteArray) (lv sq : Int) (h : TreeIn w B v L H q) (hB : B ≤ w.heap.size) (hz : treeOk L H q = true) (hrec : recOk ⟨nm.data.toList, lv, tx.data.toList, sq⟩ = true) (hnm : nm.size ≤ 1048576) (htx : tx.size ≤ 1048576) :
    Calls Tryz.prog 125 #[v, .agg #[.string nm, .int .i64 lv, .string tx, .int .i64 sq]] w (TakePost w nm tx sq (entX L q nm.data.toList tx.data.toList lv)) := by
  have CA := implLoggerAtX_c nm h hB
  rw [hz, if_pos rfl] at CA
  have CA := hid (fun (W : World) (hW : Below w.heap.size w W) => (show Calls Tryz.prog 137 #[v, .string nm] W (fun e w' => e = .returned (.int .i64 (idxL (nsOf L) nm.data.toList)) ∧ Below W.heap.size W w') by
    have := implLoggerAtX_c nm (h.below hW hB) (Nat.le_trans hB hW.size); rw [hz, if_pos rfl] at this; exact this))
  have CE := hid (fun (W : World) (hW : Below w.heap.size w W) => implEffectiveLevel_c nm (h.below hW hB) (Nat.le_trans hB hW.size) (by unfold maxLen; omega))
  rw [show levelT L H q nm.data.toList = levelN (nsOf L) (lvAt L) nm.data.toList by unfold levelT; rw [hz, (recOk_rng hrec).2.2]; rfl] at CE
  obtain ⟨b, o, n1, k1, A2, n2, k2, ls, rfl, hl, hL, hN, hn, hn8, hn1, hbB⟩ := h.opened hz
  obtain ⟨h0, hnd, hnmm, hlen, _⟩ := tree_ns hz
  have hcap := hl.1.cap
  unfold maxLen at hcap
  have HR := hid hrec
  have HB0 := hid (show Below w.heap.size w ((((w.alloc (.cells #[.slice (some ⟨b, o, none⟩) n1 k1, .slice A2 n2 k2, .int .i64 q] 36)).alloc (.cells #[.string nm, .int .i64 lv, .string tx, .int .i64 sq] 61)).alloc (.cells #[.string ⟨#[]⟩, .int .i64 0, .string ⟨#[]⟩, .int .i64 0] 61)).alloc (.cells #[.string ⟨#[]⟩, .int .i64 0, .slice none 0 0, .slice none 0 0, .bool false, .bool false] 112)) by go_grown)
  have HT0 := hid ((((Blk.new w #[.slice (some ⟨b, o, none⟩) n1 k1, .slice A2 n2 k2, .int .i64 q] 36).alloc (.cells #[.string nm, .int .i64 lv, .string tx, .int .i64 sq] 61)).alloc (.cells #[.string ⟨#[]⟩, .int .i64 0, .string ⟨#[]⟩, .int .i64 0] 61)).alloc (.cells #[.string ⟨#[]⟩, .int .i64 0, .slice none 0 0, .slice none 0 0, .bool false, .bool false] 112))
  have HK0 := hid (((Blk.new (w.alloc (.cells #[.slice (some ⟨b, o, none⟩) n1 k1, .slice A2 n2 k2, .int .i64 q] 36)) #[.string nm, .int .i64 lv, .string tx, .int .i64 sq] 61).alloc (.cells #[.string ⟨#[]⟩, .int .i64 0, .string ⟨#[]⟩, .int .i64 0] 61)).alloc (.cells #[.string ⟨#[]⟩, .int .i64 0, .slice none 0 0, .slice none 0 0, .bool false, .bool false] 112))
  have HZ0 := hid ((Blk.new ((w.alloc (.cells #[.slice (some ⟨b, o, none⟩) n1 k1, .slice A2 n2 k2, .int .i64 q] 36)).alloc (.cells #[.string nm, .int .i64 lv, .string tx, .int .i64 sq] 61)) #[.string ⟨#[]⟩, .int .i64 0, .string ⟨#[]⟩, .int .i64 0] 61).alloc (.cells #[.string ⟨#[]⟩, .int .i64 0, .slice none 0 0, .slice none 0 0, .bool false, .bool false] 112))
  have HL0 := hid (Blk.new (((w.alloc (.cells #[.slice (some ⟨b, o, none⟩) n1 k1, .slice A2 n2 k2, .int .i64 q] 36)).alloc (.cells #[.string nm, .int .i64 lv, .string tx, .int .i64 sq] 61)).alloc (.cells #[.string ⟨#[]⟩, .int .i64 0, .string ⟨#[]⟩, .int .i64 0] 61)) #[.string ⟨#[]⟩, .int .i64 0, .slice none 0 0, .slice none 0 0, .bool false, .bool false] 112)
  simp only [World.size_alloc] at HK0 HZ0 HL0
  have hbw : b < w.heap.size := by omega
  by_cases hm : nm.data.toList ∈ nsOf L
  · have hns := near_self h0 hnd hm
    have hlt : nearN (nsOf L) nm.data.toList < n1 := by rw [hn, ← hlen]; exact hns.1
    have hix : idxL (nsOf L) nm.data.toList = ((nearN (nsOf L) nm.data.toList : Nat) : Int) := by
      unfold idxL
      rw [if_pos hm]
      have : (nsOf L).idxOf nm.data.toList = nearN (nsOf L) nm.data.toList := (near_hit h0 hnd _ _ (by rw [List.getElem?_eq_getElem (List.idxOf_lt_length_of_mem hm), List.getElem_idxOf])).symm
      rw [this]
    have HO := hid (show offT L nm.data.toList = offAt L (nearN (nsOf L) nm.data.toList) by unfold offT; rw [decide_eq_true hm]; rfl)
    have HW := hid (show ownF L nm.data.toList = fsAt L (nearN (nsOf L) nm.data.toList) by unfold ownF; rw [if_pos hm])
    obtain ⟨p, A3, hn', k3, A4, fn, k4, hp, hps, _, hff, g0, g1, g2, g3, g4, g5⟩ := logger_at hl hL hlt
    generalize nearN (nsOf L) nm.data.toList = ix at *
    generalize lvAt L ix = lvx at g1
    generalize stopAt L ix = stx at g4
    have s0 : (0 : Int) ≤ (ix : Int) := by omega
    have s1 : (ix : Int) < (n1 : Int) := by omega
    have s2 : ((ix : Int)).toNat = ix := by simp
    have hge : (0 : Int) ≤ (ix : Int) := by omega
    rw [hix] at CA
    have CF := hid (fun (W : World) (hW : Below w.heap.size w W) => implFilterRecord_c (.slice A4 fn k4) fn B (ownF L nm.data.toList) nm tx lv sq W (by rw [HW.out]; exact ⟨hff.1.below hW hB, hff.2⟩) (Nat.le_trans hB hW.size) hnm htx)
    have hfo : filtersOk (ownF L nm.data.toList) = true := own_ok hz _
    rw [show fX (ownF L nm.data.toList) nm tx lv sq = filtL nm.data.toList tx.data.toList (ownF L nm.data.toList) lv by unfold fX; rw [hfo, HR.out]; rfl] at CF
    have HX1 := hid (fun (hf : offT L nm.data.toList = true) => ent_off (L := L) (q := q) (nm := nm.data.toList) (tx := tx.data.toList) (lv := lv) hf)
    have HX2 := hid (fun (hf : offT L nm.data.toList = false) (h1 : lv ≤ q) => ent_quiet (L := L) (q := q) (nm := nm.data.toList) (tx := tx.data.toList) (lv := lv) hf h1)
    have HX3 := hid (fun (hf : offT L nm.data.toList = false) (h1 : ¬ lv ≤ q) (h2 : lv < levelN (nsOf L) (lvAt L) nm.data.toList) => ent_level (L := L) (q := q) (nm := nm.data.toList) (tx := tx.data.toList) (lv := lv) hf h1 h2)
    have HX4 := hid (fun (hf : offT L nm.data.toList = false) (h1 : ¬ lv ≤ q) (h2 : ¬ lv < levelN (nsOf L) (lvAt L) nm.data.toList) (h3 : filtL nm.data.toList tx.data.toList (ownF L nm.data.toList) lv = none) => ent_filter (L := L) (q := q) (nm := nm.data.toList) (tx := tx.data.toList) (lv := lv) hf h1 h2 h3)
    have HX5 := hid (fun (v : Int) (hf : offT L nm.data.toList = false) (h1 : ¬ lv ≤ q) (h2 : ¬ lv < levelN (nsOf L) (lvAt L) nm.data.toList) (h3 : filtL nm.data.toList tx.data.toList (ownF L nm.data.toList) lv = some v) => ent_sent (L := L) (q := q) (nm := nm.data.toList) (tx := tx.data.toList) (lv := lv) hf h1 h2 h3)
    generalize entX L q nm.data.toList tx.data.toList lv = X at HX1 HX2 HX3 HX4 HX5 ⊢
    generalize hfl : filtL nm.data.toList tx.data.toList (ownF L nm.data.toList) lv = fl at *
    generalize levelN (nsOf L) (lvAt L) nm.data.toList = le at *
    generalize hof : offT L nm.data.toList = of at *
    rw [← HO.out] at g5
    clear hfl hof h hz hrec hl hL hN hn h0 hnd hnmm hlen hm hfo hix hns hff hp
    cases of with
    | true =>
      go_enter Tryz.func125, Tryz.ntmps125
      go_wp2_with fail
      refine (CA.out _ HB0.out).mono ?_
      rintro e w1 ⟨rfl, hb⟩
      have HB1 := hid (HB0.out.trans (hb.mono HB0.out.size))
      have HT1 := hid (HT0.out.to hb)
      have HK1 := hid (HK0.out.to hb)
      have HZ1 := hid (HZ0.out.to hb)
      have HL1 := hid (HL0.out.to hb)
      clear hb
      have sz0 : w.heap.size < w1.heap.size := HT1.out.1
      have sz1 : w.heap.size + 1 < w1.heap.size := HK1.out.1
      have sz2 : w.heap.size + 1 + 1 < w1.heap.size := HZ1.out.1
      have sz3 : w.heap.size + 1 + 1 + 1 < w1.heap.size := HL1.out.1
      obtain ⟨t0, tf0⟩ := HT1.out.2 0 _ rfl
      obtain ⟨t1, tf1⟩ := HT1.out.2 1 _ rfl
      obtain ⟨t2, tf2⟩ := HT1.out.2 2 _ rfl
      obtain ⟨d0, df0⟩ := HK1.out.2 0 _ rfl
      obtain ⟨d1, df1⟩ := HK1.out.2 1 _ rfl
      obtain ⟨d2, df2⟩ := HK1.out.2 2 _ rfl
      obtain ⟨d3, df3⟩ := HK1.out.2 3 _ rfl
      obtain ⟨z0, zf0⟩ := HZ1.out.2 0 _ rfl
      obtain ⟨z1, zf1⟩ := HZ1.out.2 1 _ rfl
      obtain ⟨z2, zf2⟩ := HZ1.out.2 2 _ rfl
      obtain ⟨z3, zf3⟩ := HZ1.out.2 3 _ rfl
      obtain ⟨l0, lf0⟩ := HL1.out.2 0 _ rfl
      obtain ⟨l1, lf1⟩ := HL1.out.2 1 _ rfl
      obtain ⟨l2, lf2⟩ := HL1.out.2 2 _ rfl
      obtain ⟨l3, lf3⟩ := HL1.out.2 3 _ rfl
      obtain ⟨l4, lf4⟩ := HL1.out.2 4 _ rfl
      obtain ⟨l5, lf5⟩ := HL1.out.2 5 _ rfl
      have c0 := (HB1.out.cell (p := ⟨b, o + ix * 6, none⟩) hbw).trans g0
      have c1 := (HB1.out.cell (p := ⟨b, o + ix * 6 + 1, none⟩) hbw).trans g1
      have c2 := (HB1.out.cell (p := ⟨b, o + ix * 6 + 2, none⟩) hbw).trans g2
      have c3 := (HB1.out.cell (p := ⟨b, o + ix * 6 + 3, none⟩) hbw).trans g3
      have c4 := (HB1.out.cell (p := ⟨b, o + ix * 6 + 4, none⟩) hbw).trans g4
      have c5 := (HB1.out.cell (p := ⟨b, o + ix * 6 + 5, none⟩) hbw).trans g5
      clear g0 g1 g2 g3 g4 g5
      generalize hbl : w.heap.size + 1 + 1 + 1 = bl at *
      generalize hbz : w.heap.size + 1 + 1 = bz at *
      generalize hbk : w.heap.size + 1 = bk at *
      generalize hbt : w.heap.size = bt at *
      have n_btbk : bt ≠ bk := by omega
      have n_bkbt : bk ≠ bt := by omega
      have n_btbz : bt ≠ bz := by omega
      have n_bzbt : bz ≠ bt := by omega
      have n_btbl : bt ≠ bl := by omega
      have n_blbt : bl ≠ bt := by omega
      have n_bkbz : bk ≠ bz := by omega
      have n_bzbk : bz ≠ bk := by omega
      have n_bkbl : bk ≠ bl := by omega
      have n_blbk : bl ≠ bk := by omega
      have n_bzbl : bz ≠ bl := by omega
      have n_blbz : bl ≠ bz := by omega
      have q_bk : bt ≤ bk := by omega
      have q_bz : bt ≤ bz := by omega
      have q_bl : bt ≤ bl := by omega
      have HBT := hid hbt
      clear hbl hbz hbk hbt HB0 HT0 HK0 HZ0 HL0
      go_wp2_with (refine wpList_stB (P := Tryz.prog) rfl 112 _ _ rfl bl [.string p, .int .i64 lvx, .slice A3 hn' k3, .slice A4 fn k4, .bool stx, .bool true] rfl rfl _ HL1.out rfl (by kernel_rfl) (List.all_eq_true.1 rfl) ?_)
      intro w5 hl5 hg5 hs5
      have HL5 := hid hl5
      have HT5 := hid (HT1.out.kept hg5 (by simpa using n_btbl))
      have HK5 := hid (HK1.out.kept hg5 (by simpa using n_bkbl))
      have HZ5 := hid (HZ1.out.kept hg5 (by simpa using n_bzbl))
      have HB5 := hid (HB1.out.grown hg5 (by omega) (by intro z hz; cases hz; omega))
      clear hl5 hg5 t0 t1 t2 tf0 tf1 tf2 d0 d1 d2 d3 df0 df1 df2 df3 z0 z1 z2 z3 zf0 zf1 zf2 zf3 l0 l1 l2 l3 l4 l5 lf0 lf1 lf2 lf3 lf4 lf5 c0 c1 c2 c3 c4 c5
      have sy0 : bt < w5.heap.size := HT5.out.1
      have sy1 : bk < w5.heap.size := HK5.out.1
      have sy2 : bz < w5.heap.size := HZ5.out.1
      have sy3 : bl < w5.heap.size := HL5.out.1
      obtain ⟨t0, tf0⟩ := HT5.out.2 0 _ rfl
      obtain ⟨t1, tf1⟩ := HT5.out.2 1 _ rfl
      obtain ⟨t2, tf2⟩ := HT5.out.2 2 _ rfl
      obtain ⟨d0, df0⟩ := HK5.out.2 0 _ rfl
      obtain ⟨d1, df1⟩ := HK5.out.2 1 _ rfl
      obtain ⟨d2, df2⟩ := HK5.out.2 2 _ rfl
      obtain ⟨d3, df3⟩ := HK5.out.2 3 _ rfl
      obtain ⟨z0, zf0⟩ := HZ5.out.2 0 _ rfl
      obtain ⟨z1, zf1⟩ := HZ5.out.2 1 _ rfl
      obtain ⟨z2, zf2⟩ := HZ5.out.2 2 _ rfl
      obtain ⟨z3, zf3⟩ := HZ5.out.2 3 _ rfl
      obtain ⟨l0, lf0⟩ := HL5.out.2 0 _ rfl
      obtain ⟨l1, lf1⟩ := HL5.out.2 1 _ rfl
      obtain ⟨l2, lf2⟩ := HL5.out.2 2 _ rfl
      obtain ⟨l3, lf3⟩ := HL5.out.2 3 _ rfl
      obtain ⟨l4, lf4⟩ := HL5.out.2 4 _ rfl
      obtain ⟨l5, lf5⟩ := HL5.out.2 5 _ rfl
      go_wp2_with fail
      have RB := (((HZ5.out.set 0 (.string nm)).set 1 (.int .i64 lv)).set 2 (.string tx)).set 3 (.int .i64 sq)
      have f0 := (RB.2 0 _ rfl).1
      have f1 := (RB.2 1 _ rfl).1
      have f2 := (RB.2 2 _ rfl).1
      have f3 := (RB.2 3 _ rfl).1
      refine bodyPost_ret (v := .tuple #[.agg #[.string nm, .int .i64 lv, .string tx, .int .i64 sq], .int .i64 1]) (by simp [results, Tryz.results125, go_sem, f0, f1, f2, f3]) rfl ?_
      refine ⟨by rw [HX1.out (by first | rfl | trivial)], ?_⟩
      rw [HBT.out]
      iterate 4 refine Below.setCell ?_ q_bz _
      exact HB5.out
    | false =>
      by_cases hq : lv ≤ q
      · skip
        go_enter Tryz.func125, Tryz.ntmps125
        go_wp2_with fail
        refine (CA.out _ HB0.out).mono ?_
        rintro e w1 ⟨rfl, hb⟩
        have HB1 := hid (HB0.out.trans (hb.mono HB0.out.size))
        have HT1 := hid (HT0.out.to hb)
        have HK1 := hid (HK0.out.to hb)
        have HZ1 := hid (HZ0.out.to hb)
        have HL1 := hid (HL0.out.to hb)
        clear hb
        have sz0 : w.heap.size < w1.heap.size := HT1.out.1
        have sz1 : w.heap.size + 1 < w1.heap.size := HK1.out.1
        have sz2 : w.heap.size + 1 + 1 < w1.heap.size := HZ1.out.1
        have sz3 : w.heap.size + 1 + 1 + 1 < w1.heap.size := HL1.out.1
        obtain ⟨t0, tf0⟩ := HT1.out.2 0 _ rfl
        obtain ⟨t1, tf1⟩ := HT1.out.2 1 _ rfl
        obtain ⟨t2, tf2⟩ := HT1.out.2 2 _ rfl
        obtain ⟨d0, df0⟩ := HK1.out.2 0 _ rfl
        obtain ⟨d1, df1⟩ := HK1.out.2 1 _ rfl
        obtain ⟨d2, df2⟩ := HK1.out.2 2 _ rfl
        obtain ⟨d3, df3⟩ := HK1.out.2 3 _ rfl
        obtain ⟨z0, zf0⟩ := HZ1.out.2 0 _ rfl
        obtain ⟨z1, zf1⟩ := HZ1.out.2 1 _ rfl
        obtain ⟨z2, zf2⟩ := HZ1.out.2 2 _ rfl
        obtain ⟨z3, zf3⟩ := HZ1.out.2 3 _ rfl
        obtain ⟨l0, lf0⟩ := HL1.out.2 0 _ rfl
        obtain ⟨l1, lf1⟩ := HL1.out.2 1 _ rfl
        obtain ⟨l2, lf2⟩ := HL1.out.2 2 _ rfl
        obtain ⟨l3, lf3⟩ := HL1.out.2 3 _ rfl
        obtain ⟨l4, lf4⟩ := HL1.out.2 4 _ rfl
        obtain ⟨l5, lf5⟩ := HL1.out.2 5 _ rfl
        have c0 := (HB1.out.cell (p := ⟨b, o + ix * 6, none⟩) hbw).trans g0
        have c1 := (HB1.out.cell (p := ⟨b, o + ix * 6 + 1, none⟩) hbw).trans g1
        have c2 := (HB1.out.cell (p := ⟨b, o + ix * 6 + 2, none⟩) hbw).trans g2
        have c3 := (HB1.out.cell (p := ⟨b, o + ix * 6 + 3, none⟩) hbw).trans g3
        have c4 := (HB1.out.cell (p := ⟨b, o + ix * 6 + 4, none⟩) hbw).trans g4
        have c5 := (HB1.out.cell (p := ⟨b, o + ix * 6 + 5, none⟩) hbw).trans g5
        clear g0 g1 g2 g3 g4 g5
        generalize hbl : w.heap.size + 1 + 1 + 1 = bl at *
        generalize hbz : w.heap.size + 1 + 1 = bz at *
        generalize hbk : w.heap.size + 1 = bk at *
        generalize hbt : w.heap.size = bt at *
        have n_btbk : bt ≠ bk := by omega
        have n_bkbt : bk ≠ bt := by omega
        have n_btbz : bt ≠ bz := by omega
        have n_bzbt : bz ≠ bt := by omega
        have n_btbl : bt ≠ bl := by omega
        have n_blbt : bl ≠ bt := by omega
        have n_bkbz : bk ≠ bz := by omega
        have n_bzbk : bz ≠ bk := by omega
        have n_bkbl : bk ≠ bl := by omega
        have n_blbk : bl ≠ bk := by omega
        have n_bzbl : bz ≠ bl := by omega
        have n_blbz : bl ≠ bz := by omega
        have q_bk : bt ≤ bk := by omega
        have q_bz : bt ≤ bz := by omega
        have q_bl : bt ≤ bl := by omega
        have HBT := hid hbt
        clear hbl hbz hbk hbt HB0 HT0 HK0 HZ0 HL0
        go_wp2_with (refine wpList_stB (P := Tryz.prog) rfl 112 _ _ rfl bl [.string p, .int .i64 lvx, .slice A3 hn' k3, .slice A4 fn k4, .bool stx, .bool false] rfl rfl _ HL1.out rfl (by kernel_rfl) (List.all_eq_true.1 rfl) ?_)
        intro w5 hl5 hg5 hs5
        have HL5 := hid hl5
        have HT5 := hid (HT1.out.kept hg5 (by simpa using n_btbl))
        have HK5 := hid (HK1.out.kept hg5 (by simpa using n_bkbl))
        have HZ5 := hid (HZ1.out.kept hg5 (by simpa using n_bzbl))
        have HB5 := hid (HB1.out.grown hg5 (by omega) (by intro z hz; cases hz; omega))
        clear hl5 hg5 t0 t1 t2 tf0 tf1 tf2 d0 d1 d2 d3 df0 df1 df2 df3 z0 z1 z2 z3 zf0 zf1 zf2 zf3 l0 l1 l2 l3 l4 l5 lf0 lf1 lf2 lf3 lf4 lf5 c0 c1 c2 c3 c4 c5
        have sy0 : bt < w5.heap.size := HT5.out.1
        have sy1 : bk < w5.heap.size := HK5.out.1
        have sy2 : bz < w5.heap.size := HZ5.out.1
        have sy3 : bl < w5.heap.size := HL5.out.1
        obtain ⟨t0, tf0⟩ := HT5.out.2 0 _ rfl
        obtain ⟨t1, tf1⟩ := HT5.out.2 1 _ rfl
        obtain ⟨t2, tf2⟩ := HT5.out.2 2 _ rfl
        obtain ⟨d0, df0⟩ := HK5.out.2 0 _ rfl
        obtain ⟨d1, df1⟩ := HK5.out.2 1 _ rfl
        obtain ⟨d2, df2⟩ := HK5.out.2 2 _ rfl
        obtain ⟨d3, df3⟩ := HK5.out.2 3 _ rfl
        obtain ⟨z0, zf0⟩ := HZ5.out.2 0 _ rfl
        obtain ⟨z1, zf1⟩ := HZ5.out.2 1 _ rfl
        obtain ⟨z2, zf2⟩ := HZ5.out.2 2 _ rfl
        obtain ⟨z3, zf3⟩ := HZ5.out.2 3 _ rfl
        obtain ⟨l0, lf0⟩ := HL5.out.2 0 _ rfl
        obtain ⟨l1, lf1⟩ := HL5.out.2 1 _ rfl
        obtain ⟨l2, lf2⟩ := HL5.out.2 2 _ rfl
        obtain ⟨l3, lf3⟩ := HL5.out.2 3 _ rfl
        obtain ⟨l4, lf4⟩ := HL5.out.2 4 _ rfl
        obtain ⟨l5, lf5⟩ := HL5.out.2 5 _ rfl
        go_wp2_with fail
        have RB := (((HZ5.out.set 0 (.string nm)).set 1 (.int .i64 lv)).set 2 (.string tx)).set 3 (.int .i64 sq)
        have f0 := (RB.2 0 _ rfl).1
        have f1 := (RB.2 1 _ rfl).1
        have f2 := (RB.2 2 _ rfl).1
        have f3 := (RB.2 3 _ rfl).1
        refine bodyPost_ret (v := .tuple #[.agg #[.string nm, .int .i64 lv, .string tx, .int .i64 sq], .int .i64 2]) (by simp [results, Tryz.results125, go_sem, f0, f1, f2, f3]) rfl ?_
        refine ⟨by rw [HX2.out (by first | rfl | trivial) hq], ?_⟩
        rw [HBT.out]
        iterate 4 refine Below.setCell ?_ q_bz _
        exact HB5.out
      · skip
        go_enter Tryz.func125, Tryz.ntmps125
        go_wp2_with fail
        refine (CA.out _ HB0.out).mono ?_
        rintro e w1 ⟨rfl, hb⟩
        have HB1 := hid (HB0.out.trans (hb.mono HB0.out.size))
        have HT1 := hid (HT0.out.to hb)
        have HK1 := hid (HK0.out.to hb)
        have HZ1 := hid (HZ0.out.to hb)
        have HL1 := hid (HL0.out.to hb)
        clear hb
        have sz0 : w.heap.size < w1.heap.size := HT1.out.1
        have sz1 : w.heap.size + 1 < w1.heap.size := HK1.out.1
        have sz2 : w.heap.size + 1 + 1 < w1.heap.size := HZ1.out.1
        have sz3 : w.heap.size + 1 + 1 + 1 < w1.heap.size := HL1.out.1
        obtain ⟨t0, tf0⟩ := HT1.out.2 0 _ rfl
        obtain ⟨t1, tf1⟩ := HT1.out.2 1 _ rfl
        obtain ⟨t2, tf2⟩ := HT1.out.2 2 _ rfl
        obtain ⟨d0, df0⟩ := HK1.out.2 0 _ rfl
        obtain ⟨d1, df1⟩ := HK1.out.2 1 _ rfl
        obtain ⟨d2, df2⟩ := HK1.out.2 2 _ rfl
        obtain ⟨d3, df3⟩ := HK1.out.2 3 _ rfl
        obtain ⟨z0, zf0⟩ := HZ1.out.2 0 _ rfl
        obtain ⟨z1, zf1⟩ := HZ1.out.2 1 _ rfl
        obtain ⟨z2, zf2⟩ := HZ1.out.2 2 _ rfl
        obtain ⟨z3, zf3⟩ := HZ1.out.2 3 _ rfl
        obtain ⟨l0, lf0⟩ := HL1.out.2 0 _ rfl
        obtain ⟨l1, lf1⟩ := HL1.out.2 1 _ rfl
        obtain ⟨l2, lf2⟩ := HL1.out.2 2 _ rfl
        obtain ⟨l3, lf3⟩ := HL1.out.2 3 _ rfl
        obtain ⟨l4, lf4⟩ := HL1.out.2 4 _ rfl
        obtain ⟨l5, lf5⟩ := HL1.out.2 5 _ rfl
        have c0 := (HB1.out.cell (p := ⟨b, o + ix * 6, none⟩) hbw).trans g0
        have c1 := (HB1.out.cell (p := ⟨b, o + ix * 6 + 1, none⟩) hbw).trans g1
        have c2 := (HB1.out.cell (p := ⟨b, o + ix * 6 + 2, none⟩) hbw).trans g2
        have c3 := (HB1.out.cell (p := ⟨b, o + ix * 6 + 3, none⟩) hbw).trans g3
        have c4 := (HB1.out.cell (p := ⟨b, o + ix * 6 + 4, none⟩) hbw).trans g4
        have c5 := (HB1.out.cell (p := ⟨b, o + ix * 6 + 5, none⟩) hbw).trans g5
        clear g0 g1 g2 g3 g4 g5
        generalize hbl : w.heap.size + 1 + 1 + 1 = bl at *
        generalize hbz : w.heap.size + 1 + 1 = bz at *
        generalize hbk : w.heap.size + 1 = bk at *
        generalize hbt : w.heap.size = bt at *
        have n_btbk : bt ≠ bk := by omega
        have n_bkbt : bk ≠ bt := by omega
        have n_btbz : bt ≠ bz := by omega
        have n_bzbt : bz ≠ bt := by omega
        have n_btbl : bt ≠ bl := by omega
        have n_blbt : bl ≠ bt := by omega
        have n_bkbz : bk ≠ bz := by omega
        have n_bzbk : bz ≠ bk := by omega
        have n_bkbl : bk ≠ bl := by omega
        have n_blbk : bl ≠ bk := by omega
        have n_bzbl : bz ≠ bl := by omega
        have n_blbz : bl ≠ bz := by omega
        have q_bk : bt ≤ bk := by omega
        have q_bz : bt ≤ bz := by omega
        have q_bl : bt ≤ bl := by omega
        have HBT := hid hbt
        clear hbl hbz hbk hbt HB0 HT0 HK0 HZ0 HL0
        go_wp2_with (refine wpList_stB (P := Tryz.prog) rfl 112 _ _ rfl bl [.string p, .int .i64 lvx, .slice A3 hn' k3, .slice A4 fn k4, .bool stx, .bool false] rfl rfl _ HL1.out rfl (by kernel_rfl) (List.all_eq_true.1 rfl) ?_)
        intro w5 hl5 hg5 hs5
        have HL5 := hid hl5
        have HT5 := hid (HT1.out.kept hg5 (by simpa using n_btbl))
        have HK5 := hid (HK1.out.kept hg5 (by simpa using n_bkbl))
        have HZ5 := hid (HZ1.out.kept hg5 (by simpa using n_bzbl))
        have HB5 := hid (HB1.out.grown hg5 (by omega) (by intro z hz; cases hz; omega))
        clear hl5 hg5 t0 t1 t2 tf0 tf1 tf2 d0 d1 d2 d3 df0 df1 df2 df3 z0 z1 z2 z3 zf0 zf1 zf2 zf3 l0 l1 l2 l3 l4 l5 lf0 lf1 lf2 lf3 lf4 lf5 c0 c1 c2 c3 c4 c5
        have sy0 : bt < w5.heap.size := HT5.out.1
        have sy1 : bk < w5.heap.size := HK5.out.1
        have sy2 : bz < w5.heap.size := HZ5.out.1
        have sy3 : bl < w5.heap.size := HL5.out.1
        obtain ⟨t0, tf0⟩ := HT5.out.2 0 _ rfl
        obtain ⟨t1, tf1⟩ := HT5.out.2 1 _ rfl
        obtain ⟨t2, tf2⟩ := HT5.out.2 2 _ rfl
        obtain ⟨d0, df0⟩ := HK5.out.2 0 _ rfl
        obtain ⟨d1, df1⟩ := HK5.out.2 1 _ rfl
        obtain ⟨d2, df2⟩ := HK5.out.2 2 _ rfl
        obtain ⟨d3, df3⟩ := HK5.out.2 3 _ rfl
        obtain ⟨z0, zf0⟩ := HZ5.out.2 0 _ rfl
        obtain ⟨z1, zf1⟩ := HZ5.out.2 1 _ rfl
        obtain ⟨z2, zf2⟩ := HZ5.out.2 2 _ rfl
        obtain ⟨z3, zf3⟩ := HZ5.out.2 3 _ rfl
        obtain ⟨l0, lf0⟩ := HL5.out.2 0 _ rfl
        obtain ⟨l1, lf1⟩ := HL5.out.2 1 _ rfl
        obtain ⟨l2, lf2⟩ := HL5.out.2 2 _ rfl
        obtain ⟨l3, lf3⟩ := HL5.out.2 3 _ rfl
        obtain ⟨l4, lf4⟩ := HL5.out.2 4 _ rfl
        obtain ⟨l5, lf5⟩ := HL5.out.2 5 _ rfl
        go_wp2_with fail
        clear t0 t1 t2 tf0 tf1 tf2 d0 d1 d2 d3 df0 df1 df2 df3 z0 z1 z2 z3 zf0 zf1 zf2 zf3 l0 l1 l2 l3 l4 l5 lf0 lf1 lf2 lf3 lf4 lf5
        obtain ⟨t0, tf0⟩ := HT5.out.2 0 _ rfl
        obtain ⟨t1, tf1⟩ := HT5.out.2 1 _ rfl
        obtain ⟨t2, tf2⟩ := HT5.out.2 2 _ rfl
        obtain ⟨d0, df0⟩ := HK5.out.2 0 _ rfl
        obtain ⟨d1, df1⟩ := HK5.out.2 1 _ rfl
        obtain ⟨d2, df2⟩ := HK5.out.2 2 _ rfl
        obtain ⟨d3, df3⟩ := HK5.out.2 3 _ rfl
        refine wp_region_held_drew (S := (fun w' : World => w'.cell? ⟨bt, 0, none⟩ = some (.slice (some ⟨b, o, none⟩) n1 k1) ∧ w'.cell? ⟨bt, 1, none⟩ = some (.slice A2 n2 k2) ∧ w'.cell? ⟨bt, 2, none⟩ = some (.int .i64 q) ∧ w'.cell? ⟨bk, 0, none⟩ = some (.string nm) ∧ w'.cell? ⟨bk, 1, none⟩ = some (.int .i64 lv))) (by kernel_rfl) ⟨t0, t1, t2, d0, d1⟩ (fun hS => ?_)
        refine wpAnyH_take (i := 0) (oi := ?oi101) (v := ?v101) ?hi101 (by kernel_rfl) ?hf101 ?hr101 ?hQ101 (Or.inl ⟨?hw101, ?hy101⟩) (by assumption) ?rest101
        case hi101 => simp only [List.getElem?_toArray, List.getElem?_cons_succ, List.getElem?_cons_zero]; rfl
        case hf101 => kernel_rfl
        case hr101 => kernel_rfl
        case hw101 => rfl
        case hy101 => (intro w hSw; (try dsimp only at hSw); go_simp; all_goals (first | done | with_reducible rfl))
        case hQ101 => exact fun _ _ _ h => h
        simp only [Act.put, List.setIfInBounds_toArray, List.set_cons_zero, List.set_cons_succ]
        refine wpAnyH_take (i := 1) (oi := ?oi102) (v := ?v102) ?hi102 (by kernel_rfl) ?hf102 ?hr102 ?hQ102 (Or.inl ⟨?hw102, ?hy102⟩) (by assumption) ?rest102
        case hi102 => simp only [List.getElem?_toArray, List.getElem?_cons_succ, List.getElem?_cons_zero]; rfl
        case hf102 => kernel_rfl
        case hr102 => kernel_rfl
        case hw102 => rfl
        case hy102 => (intro w hSw; (try dsimp only at hSw); go_simp; all_goals (first | done | with_reducible rfl))
        case hQ102 => exact fun _ _ _ h => h
        simp only [Act.put, List.setIfInBounds_toArray, List.set_cons_zero, List.set_cons_succ]
        refine wpAnyH_take (i := 2) (oi := ?oi103) (v := ?v103) ?hi103 (by kernel_rfl) ?hf103 ?hr103 ?hQ103 (Or.inl ⟨?hw103, ?hy103⟩) (by assumption) ?rest103
        case hi103 => simp only [List.getElem?_toArray, List.getElem?_cons_succ, List.getElem?_cons_zero]; rfl
        case hf103 => kernel_rfl
        case hr103 => kernel_rfl
        case hw103 => rfl
        case hy103 => (intro w hSw; (try dsimp only at hSw); go_simp; all_goals (first | done | with_reducible rfl))
        case hQ103 => exact fun _ _ _ h => h
        simp only [Act.put, List.setIfInBounds_toArray, List.set_cons_zero, List.set_cons_succ]
        refine wpAnyH_take (i := 3) (oi := ?oi104) (v := ?v104) ?hi104 (by kernel_rfl) ?hf104 ?hr104 ?hQ104 (Or.inl ⟨?hw104, ?hy104⟩) (by assumption) ?rest104
        case hi104 => simp only [List.getElem?_toArray, List.getElem?_cons_succ, List.getElem?_cons_zero]; rfl
        case hf104 => kernel_rfl
        case hr104 => kernel_rfl
        case hw104 => rfl
        case hy104 => (intro w hSw; (try dsimp only at hSw); go_simp; all_goals (first | done | with_reducible rfl))
        case hQ104 => exact fun _ _ _ h => h
        simp only [Act.put, List.setIfInBounds_toArray, List.set_cons_zero, List.set_cons_succ]
        refine wpAnyH_take (i := 4) (oi := ?oi105) (v := ?v105) ?hi105 (by kernel_rfl) ?hf105 ?hr105 ?hQ105 (Or.inl ⟨?hw105, ?hy105⟩) (by assumption) ?rest105
        case hi105 => simp only [List.getElem?_toArray, List.getElem?_cons_succ, List.getElem?_cons_zero]; rfl
        case hf105 => kernel_rfl
        case hr105 => kernel_rfl
        case hw105 => rfl
        case hy105 => (intro w hSw; (try dsimp only at hSw); go_simp; all_goals (first | done | with_reducible rfl))
        case hQ105 => exact fun _ _ _ h => h
        simp only [Act.put, List.setIfInBounds_toArray, List.set_cons_zero, List.set_cons_succ]
        refine wpAnyH_ready (rs := [5]) (by kernel_rfl) (by simp) ?_
        refine AllReadyH.cons (o := ?oi106) ?hi106 (fun K hK => ?step106) AllReadyH.nil
        case hi106 => simp only [List.getElem?_toArray, List.getElem?_cons_succ, List.getElem?_cons_zero]; rfl
        rw [if_pos (by rfl)]
        go_simp
        go_at_call 138
        refine (CE.out _ HB5.out.drew).mono ?_
        rintro e w6 ⟨rfl, hb⟩
        have hb9 : Below w5.heap.size w5 w6 := (Below.refl _ _).drew.trans hb
        have HB6 := hid (HB5.out.trans (hb9.mono (by have := HB5.out.size; have := HBT.out; omega)))
        have HT6 := hid (HT5.out.to hb9)
        have HK6 := hid (HK5.out.to hb9)
        have HZ6 := hid (HZ5.out.to hb9)
        have HL6 := hid (HL5.out.to hb9)
        clear hb hb9 t0 t1 t2 tf0 tf1 tf2 d0 d1 d2 d3 df0 df1 df2 df3
        obtain ⟨t0, tf0⟩ := HT6.out.2 0 _ rfl
        obtain ⟨t1, tf1⟩ := HT6.out.2 1 _ rfl
        obtain ⟨t2, tf2⟩ := HT6.out.2 2 _ rfl
        obtain ⟨d0, df0⟩ := HK6.out.2 0 _ rfl
        obtain ⟨d1, df1⟩ := HK6.out.2 1 _ rfl
        obtain ⟨d2, df2⟩ := HK6.out.2 2 _ rfl
        obtain ⟨d3, df3⟩ := HK6.out.2 3 _ rfl
        obtain ⟨l0, lf0⟩ := HL6.out.2 0 _ rfl
        obtain ⟨l1, lf1⟩ := HL6.out.2 1 _ rfl
        obtain ⟨l2, lf2⟩ := HL6.out.2 2 _ rfl
        obtain ⟨l3, lf3⟩ := HL6.out.2 3 _ rfl
        obtain ⟨l4, lf4⟩ := HL6.out.2 4 _ rfl
        obtain ⟨l5, lf5⟩ := HL6.out.2 5 _ rfl
        obtain ⟨z0, zf0⟩ := HZ6.out.2 0 _ rfl
        obtain ⟨z1, zf1⟩ := HZ6.out.2 1 _ rfl
        obtain ⟨z2, zf2⟩ := HZ6.out.2 2 _ rfl
        obtain ⟨z3, zf3⟩ := HZ6.out.2 3 _ rfl
        refine hK.out _ _ ⟨t0, t1, t2, d0, d1⟩ (fun hS9 => ?_)
        refine wpAnyH_take (i := 6) (oi := ?oi107) (v := ?v107) ?hi107 (by kernel_rfl) ?hf107 ?hr107 ?hQ107 (Or.inl ⟨?hw107, ?hy107⟩) (by assumption) ?rest107
        case hi107 => simp only [List.getElem?_toArray, List.getElem?_cons_succ, List.getElem?_cons_zero]; rfl
        case hf107 => kernel_rfl
        case hr107 => kernel_rfl
        case hw107 => rfl
        case hy107 => (intro w hSw; (try dsimp only at hSw); go_simp; all_goals (first | done | with_reducible rfl))
        case hQ107 => exact fun _ _ _ h => h
        simp only [Act.put, List.setIfInBounds_toArray, List.set_cons_zero, List.set_cons_succ]
        refine wpAnyH_take (i := 7) (oi := ?oi108) (v := ?v108) ?hi108 (by kernel_rfl) ?hf108 ?hr108 ?hQ108 (Or.inl ⟨?hw108, ?hy108⟩) (by assumption) ?rest108
        case hi108 => simp only [List.getElem?_toArray, List.getElem?_cons_succ, List.getElem?_cons_zero]; rfl
        case hf108 => kernel_rfl
        case hr108 => kernel_rfl
        case hw108 => rfl
        case hy108 => (intro w hSw; (try dsimp only at hSw); go_simp; all_goals (first | done | with_reducible rfl))
        case hQ108 => exact fun _ _ _ h => h
        simp only [Act.put, List.setIfInBounds_toArray, List.set_cons_zero, List.set_cons_succ]
        refine wpAnyH_done (by kernel_rfl) ?_ _
        clear hS
        have sz6 : bt < w6.heap.size := HT6.out.1
        have sz7 : bk < w6.heap.size := HK6.out.1
        have sz8 : bz < w6.heap.size := HZ6.out.1
        have sz9 : bl < w6.heap.size := HL6.out.1
        by_cases hle : lv < le
        · go_wp2_with fail
          have RB := (((HZ6.out.set 0 (.string nm)).set 1 (.int .i64 lv)).set 2 (.string tx)).set 3 (.int .i64 sq)
          have f0 := (RB.2 0 _ rfl).1
          have f1 := (RB.2 1 _ rfl).1
          have f2 := (RB.2 2 _ rfl).1
          have f3 := (RB.2 3 _ rfl).1
          refine bodyPost_ret (v := .tuple #[.agg #[.string nm, .int .i64 lv, .string tx, .int .i64 sq], .int .i64 3]) (by simp [results, Tryz.results125, go_sem, f0, f1, f2, f3]) rfl ?_
          refine ⟨by rw [HX3.out (by first | rfl | trivial) hq hle], ?_⟩
          rw [HBT.out]
          iterate 4 refine Below.setCell ?_ q_bz _
          exact HB6.out
        · go_wp2_with fail
          refine (CF.out _ HB6.out).mono ?_
          rintro e w7 ⟨he, hb⟩
          have HB7 := hid (HB6.out.trans (hb.mono (by have := HB6.out.size; have := HBT.out; omega)))
          have HK7 := hid (HK6.out.to hb)
          have HZ7 := hid (HZ6.out.to hb)
          clear hb t0 t1 t2 tf0 tf1 tf2 d0 d1 d2 d3 df0 df1 df2 df3 z0 z1 z2 z3 zf0 zf1 zf2 zf3 l0 l1 l2 l3 l4 l5 lf0 lf1 lf2 lf3 lf4 lf5
          obtain ⟨d0, df0⟩ := HK7.out.2 0 _ rfl
          obtain ⟨d1, df1⟩ := HK7.out.2 1 _ rfl
          obtain ⟨d2, df2⟩ := HK7.out.2 2 _ rfl
          obtain ⟨d3, df3⟩ := HK7.out.2 3 _ rfl
          obtain ⟨z0, zf0⟩ := HZ7.out.2 0 _ rfl
          obtain ⟨z1, zf1⟩ := HZ7.out.2 1 _ rfl
          obtain ⟨z2, zf2⟩ := HZ7.out.2 2 _ rfl
          obtain ⟨z3, zf3⟩ := HZ7.out.2 3 _ rfl
          have szA : bk < w7.heap.size := HK7.out.1
          have szB : bz < w7.heap.size := HZ7.out.1
          cases fl with
          | none =>
            simp only [recOut, Option.isSome] at he
            subst he
            go_wp2_with fail
            have RB := (((HZ7.out.set 0 (.string nm)).set 1 (.int .i64 lv)).set 2 (.string tx)).set 3 (.int .i64 sq)
            replace RB := RB.alloc (.cells #[.string ⟨#[]⟩, .int .i64 0, .string ⟨#[]⟩, .int .i64 0] 61)
            have f0 := (RB.2 0 _ rfl).1
            have f1 := (RB.2 1 _ rfl).1
            have f2 := (RB.2 2 _ rfl).1
            have f3 := (RB.2 3 _ rfl).1
            refine bodyPost_ret (v := .tuple #[.agg #[.string nm, .int .i64 lv, .string tx, .int .i64 sq], .int .i64 4]) (by simp [results, Tryz.results125, go_sem, f0, f1, f2, f3]) rfl ?_
            refine ⟨by rw [HX4.out (by first | rfl | trivial) hq hle (by first | rfl | trivial)], ?_⟩
            rw [HBT.out]
            refine Below.alloc ?_ (by simp; omega) _
            iterate 4 refine Below.setCell ?_ q_bz _
            exact HB7.out
          | some g =>
            simp only [recOut, Option.isSome] at he
            subst he
            go_wp2_with fail
            have RB := (((HZ7.out.set 0 (.string nm)).set 1 (.int .i64 g)).set 2 (.string tx)).set 3 (.int .i64 sq)
            replace RB := RB.alloc (.cells #[.string nm, .int .i64 g, .string tx, .int .i64 sq] 61)
            have f0 := (RB.2 0 _ rfl).1
            have f1 := (RB.2 1 _ rfl).1
            have f2 := (RB.2 2 _ rfl).1
            have f3 := (RB.2 3 _ rfl).1
            refine bodyPost_ret (v := .tuple #[.agg #[.string nm, .int .i64 g, .string tx, .int .i64 sq], .int .i64 0]) (by simp [results, Tryz.results125, go_sem, f0, f1, f2, f3]) rfl ?_
            refine ⟨by rw [HX5.out g (by first | rfl | trivial) hq hle (by first | rfl | trivial)], ?_⟩
            rw [HBT.out]
            refine Below.alloc ?_ (by simp; omega) _
            iterate 4 refine Below.setCell ?_ q_bz _
            exact HB7.out

  · have hix : idxL (nsOf L) nm.data.toList = -1 := idx_miss _ _ hm
    have HO := hid (show offT L nm.data.toList = false by unfold offT; rw [decide_eq_false hm]; rfl)
    have HW := hid (show ownF L nm.data.toList = [] by unfold ownF; rw [if_neg hm])
    rw [hix] at CA
    have CF := hid (fun (W : World) (hW : Below w.heap.size w W) => implFilterRecord_c (.slice none 0 0) 0 B (ownF L nm.data.toList) nm tx lv sq W (by rw [HW.out]; exact Fs.none_ W B) (Nat.le_trans hB hW.size) hnm htx)
    have hfo : filtersOk (ownF L nm.data.toList) = true := own_ok hz _
    rw [show fX (ownF L nm.data.toList) nm tx lv sq = filtL nm.data.toList tx.data.toList (ownF L nm.data.toList) lv by unfold fX; rw [hfo, HR.out]; rfl] at CF
    have HX1 := hid (fun (hf : offT L nm.data.toList = true) => ent_off (L := L) (q := q) (nm := nm.data.toList) (tx := tx.data.toList) (lv := lv) hf)
    have HX2 := hid (fun (hf : offT L nm.data.toList = false) (h1 : lv ≤ q) => ent_quiet (L := L) (q := q) (nm := nm.data.toList) (tx := tx.data.toList) (lv := lv) hf h1)
    have HX3 := hid (fun (hf : offT L nm.data.toList = false) (h1 : ¬ lv ≤ q) (h2 : lv < levelN (nsOf L) (lvAt L) nm.data.toList) => ent_level (L := L) (q := q) (nm := nm.data.toList) (tx := tx.data.toList) (lv := lv) hf h1 h2)
    have HX4 := hid (fun (hf : offT L nm.data.toList = false) (h1 : ¬ lv ≤ q) (h2 : ¬ lv < levelN (nsOf L) (lvAt L) nm.data.toList) (h3 : filtL nm.data.toList tx.data.toList (ownF L nm.data.toList) lv = none) => ent_filter (L := L) (q := q) (nm := nm.data.toList) (tx := tx.data.toList) (lv := lv) hf h1 h2 h3)
    have HX5 := hid (fun (v : Int) (hf : offT L nm.data.toList = false) (h1 : ¬ lv ≤ q) (h2 : ¬ lv < levelN (nsOf L) (lvAt L) nm.data.toList) (h3 : filtL nm.data.toList tx.data.toList (ownF L nm.data.toList) lv = some v) => ent_sent (L := L) (q := q) (nm := nm.data.toList) (tx := tx.data.toList) (lv := lv) hf h1 h2 h3)
    generalize entX L q nm.data.toList tx.data.toList lv = X at HX1 HX2 HX3 HX4 HX5 ⊢
    generalize hfl : filtL nm.data.toList tx.data.toList (ownF L nm.data.toList) lv = fl at *
    generalize levelN (nsOf L) (lvAt L) nm.data.toList = le at *
    generalize hof : offT L nm.data.toList = of at *
    clear hfl hof h hz hrec hl hL hN hn h0 hnd hnmm hlen hm hfo hix
    obtain rfl : of = false := HO.out
    by_cases hq : lv ≤ q
    · skip
      go_enter Tryz.func125, Tryz.ntmps125
      go_wp2_with fail
      refine (CA.out _ HB0.out).mono ?_
      rintro e w1 ⟨rfl, hb⟩
      have HB1 := hid (HB0.out.trans (hb.mono HB0.out.size))
      have HT1 := hid (HT0.out.to hb)
      have HK1 := hid (HK0.out.to hb)
      have HZ1 := hid (HZ0.out.to hb)
      have HL1 := hid (HL0.out.to hb)
      clear hb
      have sz0 : w.heap.size < w1.heap.size := HT1.out.1
      have sz1 : w.heap.size + 1 < w1.heap.size := HK1.out.1
      have sz2 : w.heap.size + 1 + 1 < w1.heap.size := HZ1.out.1
      have sz3 : w.heap.size + 1 + 1 + 1 < w1.heap.size := HL1.out.1
      obtain ⟨t0, tf0⟩ := HT1.out.2 0 _ rfl
      obtain ⟨t1, tf1⟩ := HT1.out.2 1 _ rfl
      obtain ⟨t2, tf2⟩ := HT1.out.2 2 _ rfl
      obtain ⟨d0, df0⟩ := HK1.out.2 0 _ rfl
      obtain ⟨d1, df1⟩ := HK1.out.2 1 _ rfl
      obtain ⟨d2, df2⟩ := HK1.out.2 2 _ rfl
      obtain ⟨d3, df3⟩ := HK1.out.2 3 _ rfl
      obtain ⟨z0, zf0⟩ := HZ1.out.2 0 _ rfl
      obtain ⟨z1, zf1⟩ := HZ1.out.2 1 _ rfl
      obtain ⟨z2, zf2⟩ := HZ1.out.2 2 _ rfl
      obtain ⟨z3, zf3⟩ := HZ1.out.2 3 _ rfl
      obtain ⟨l0, lf0⟩ := HL1.out.2 0 _ rfl
      obtain ⟨l1, lf1⟩ := HL1.out.2 1 _ rfl
      obtain ⟨l2, lf2⟩ := HL1.out.2 2 _ rfl
      obtain ⟨l3, lf3⟩ := HL1.out.2 3 _ rfl
      obtain ⟨l4, lf4⟩ := HL1.out.2 4 _ rfl
      obtain ⟨l5, lf5⟩ := HL1.out.2 5 _ rfl
      generalize hbl : w.heap.size + 1 + 1 + 1 = bl at *
      generalize hbz : w.heap.size + 1 + 1 = bz at *
      generalize hbk : w.heap.size + 1 = bk at *
      generalize hbt : w.heap.size = bt at *
      have n_btbk : bt ≠ bk := by omega
      have n_bkbt : bk ≠ bt := by omega
      have n_btbz : bt ≠ bz := by omega
      have n_bzbt : bz ≠ bt := by omega
      have n_btbl : bt ≠ bl := by omega
      have n_blbt : bl ≠ bt := by omega
      have n_bkbz : bk ≠ bz := by omega
      have n_bzbk : bz ≠ bk := by omega
      have n_bkbl : bk ≠ bl := by omega
      have n_blbk : bl ≠ bk := by omega
      have n_bzbl : bz ≠ bl := by omega
      have n_blbz : bl ≠ bz := by omega
      have q_bk : bt ≤ bk := by omega
      have q_bz : bt ≤ bz := by omega
      have q_bl : bt ≤ bl := by omega
      have HBT := hid hbt
      clear hbl hbz hbk hbt HB0 HT0 HK0 HZ0 HL0
      have HT5 := HT1
      have HK5 := HK1
      have HZ5 := HZ1
      have HL5 := HL1
      have HB5 := HB1
      go_wp2_with fail
      have RB := (((HZ5.out.set 0 (.string nm)).set 1 (.int .i64 lv)).set 2 (.string tx)).set 3 (.int .i64 sq)
      have f0 := (RB.2 0 _ rfl).1
      have f1 := (RB.2 1 _ rfl).1
      have f2 := (RB.2 2 _ rfl).1
      have f3 := (RB.2 3 _ rfl).1
      refine bodyPost_ret (v := .tuple #[.agg #[.string nm, .int .i64 lv, .string tx, .int .i64 sq], .int .i64 2]) (by simp [results, Tryz.results125, go_sem, f0, f1, f2, f3]) rfl ?_
      refine ⟨by rw [HX2.out (by first | rfl | trivial) hq], ?_⟩
      rw [HBT.out]
      iterate 4 refine Below.setCell ?_ q_bz _
      exact HB5.out
    · skip
      go_enter Tryz.func125, Tryz.ntmps125
      go_wp2_with fail
      refine (CA.out _ HB0.out).mono ?_
      rintro e w1 ⟨rfl, hb⟩
      have HB1 := hid (HB0.out.trans (hb.mono HB0.out.size))
      have HT1 := hid (HT0.out.to hb)
      have HK1 := hid (HK0.out.to hb)
      have HZ1 := hid (HZ0.out.to hb)
      have HL1 := hid (HL0.out.to hb)
      clear hb
      have sz0 : w.heap.size < w1.heap.size := HT1.out.1
      have sz1 : w.heap.size + 1 < w1.heap.size := HK1.out.1
      have sz2 : w.heap.size + 1 + 1 < w1.heap.size := HZ1.out.1
      have sz3 : w.heap.size + 1 + 1 + 1 < w1.heap.size := HL1.out.1
      obtain ⟨t0, tf0⟩ := HT1.out.2 0 _ rfl
      obtain ⟨t1, tf1⟩ := HT1.out.2 1 _ rfl
      obtain ⟨t2, tf2⟩ := HT1.out.2 2 _ rfl
      obtain ⟨d0, df0⟩ := HK1.out.2 0 _ rfl
      obtain ⟨d1, df1⟩ := HK1.out.2 1 _ rfl
      obtain ⟨d2, df2⟩ := HK1.out.2 2 _ rfl
      obtain ⟨d3, df3⟩ := HK1.out.2 3 _ rfl
      obtain ⟨z0, zf0⟩ := HZ1.out.2 0 _ rfl
      obtain ⟨z1, zf1⟩ := HZ1.out.2 1 _ rfl
      obtain ⟨z2, zf2⟩ := HZ1.out.2 2 _ rfl
      obtain ⟨z3, zf3⟩ := HZ1.out.2 3 _ rfl
      obtain ⟨l0, lf0⟩ := HL1.out.2 0 _ rfl
      obtain ⟨l1, lf1⟩ := HL1.out.2 1 _ rfl
      obtain ⟨l2, lf2⟩ := HL1.out.2 2 _ rfl
      obtain ⟨l3, lf3⟩ := HL1.out.2 3 _ rfl
      obtain ⟨l4, lf4⟩ := HL1.out.2 4 _ rfl
      obtain ⟨l5, lf5⟩ := HL1.out.2 5 _ rfl
      generalize hbl : w.heap.size + 1 + 1 + 1 = bl at *
      generalize hbz : w.heap.size + 1 + 1 = bz at *
      generalize hbk : w.heap.size + 1 = bk at *
      generalize hbt : w.heap.size = bt at *
      have n_btbk : bt ≠ bk := by omega
      have n_bkbt : bk ≠ bt := by omega
      have n_btbz : bt ≠ bz := by omega
      have n_bzbt : bz ≠ bt := by omega
      have n_btbl : bt ≠ bl := by omega
      have n_blbt : bl ≠ bt := by omega
      have n_bkbz : bk ≠ bz := by omega
      have n_bzbk : bz ≠ bk := by omega
      have n_bkbl : bk ≠ bl := by omega
      have n_blbk : bl ≠ bk := by omega
      have n_bzbl : bz ≠ bl := by omega
      have n_blbz : bl ≠ bz := by omega
      have q_bk : bt ≤ bk := by omega
      have q_bz : bt ≤ bz := by omega
      have q_bl : bt ≤ bl := by omega
      have HBT := hid hbt
      clear hbl hbz hbk hbt HB0 HT0 HK0 HZ0 HL0
      have HT5 := HT1
      have HK5 := HK1
      have HZ5 := HZ1
      have HL5 := HL1
      have HB5 := HB1
      go_wp2_with fail
      generalize w1 = w5 at *
      clear t0 t1 t2 tf0 tf1 tf2 d0 d1 d2 d3 df0 df1 df2 df3 z0 z1 z2 z3 zf0 zf1 zf2 zf3 l0 l1 l2 l3 l4 l5 lf0 lf1 lf2 lf3 lf4 lf5
      obtain ⟨t0, tf0⟩ := HT5.out.2 0 _ rfl
      obtain ⟨t1, tf1⟩ := HT5.out.2 1 _ rfl
      obtain ⟨t2, tf2⟩ := HT5.out.2 2 _ rfl
      obtain ⟨d0, df0⟩ := HK5.out.2 0 _ rfl
      obtain ⟨d1, df1⟩ := HK5.out.2 1 _ rfl
      obtain ⟨d2, df2⟩ := HK5.out.2 2 _ rfl
      obtain ⟨d3, df3⟩ := HK5.out.2 3 _ rfl
      refine wp_region_held_drew (S := (fun w' : World => w'.cell? ⟨bt, 0, none⟩ = some (.slice (some ⟨b, o, none⟩) n1 k1) ∧ w'.cell? ⟨bt, 1, none⟩ = some (.slice A2 n2 k2) ∧ w'.cell? ⟨bt, 2, none⟩ = some (.int .i64 q) ∧ w'.cell? ⟨bk, 0, none⟩ = some (.string nm) ∧ w'.cell? ⟨bk, 1, none⟩ = some (.int .i64 lv))) (by kernel_rfl) ⟨t0, t1, t2, d0, d1⟩ (fun hS => ?_)
      refine wpAnyH_take (i := 0) (oi := ?oi109) (v := ?v109) ?hi109 (by kernel_rfl) ?hf109 ?hr109 ?hQ109 (Or.inl ⟨?hw109, ?hy109⟩) (by assumption) ?rest109
      case hi109 => simp only [List.getElem?_toArray, List.getElem?_cons_succ, List.getElem?_cons_zero]; rfl
      case hf109 => kernel_rfl
      case hr109 => kernel_rfl
      case hw109 => rfl
      case hy109 => (intro w hSw; (try dsimp only at hSw); go_simp; all_goals (first | done | with_reducible rfl))
      case hQ109 => exact fun _ _ _ h => h
      simp only [Act.put, List.setIfInBounds_toArray, List.set_cons_zero, List.set_cons_succ]
      refine wpAnyH_take (i := 1) (oi := ?oi110) (v := ?v110) ?hi110 (by kernel_rfl) ?hf110 ?hr110 ?hQ110 (Or.inl ⟨?hw110, ?hy110⟩) (by assumption) ?rest110
      case hi110 => simp only [List.getElem?_toArray, List.getElem?_cons_succ, List.getElem?_cons_zero]; rfl
      case hf110 => kernel_rfl
      case hr110 => kernel_rfl
      case hw110 => rfl
      case hy110 => (intro w hSw; (try dsimp only at hSw); go_simp; all_goals (first | done | with_reducible rfl))
      case hQ110 => exact fun _ _ _ h => h
      simp only [Act.put, List.setIfInBounds_toArray, List.set_cons_zero, List.set_cons_succ]
      refine wpAnyH_take (i := 2) (oi := ?oi111) (v := ?v111) ?hi111 (by kernel_rfl) ?hf111 ?hr111 ?hQ111 (Or.inl ⟨?hw111, ?hy111⟩) (by assumption) ?rest111
      case hi111 => simp only [List.getElem?_toArray, List.getElem?_cons_succ, List.getElem?_cons_zero]; rfl
      case hf111 => kernel_rfl
      case hr111 => kernel_rfl
      case hw111 => rfl
      case hy111 => (intro w hSw; (try dsimp only at hSw); go_simp; all_goals (first | done | with_reducible rfl))
      case hQ111 => exact fun _ _ _ h => h
      simp only [Act.put, List.setIfInBounds_toArray, List.set_cons_zero, List.set_cons_succ]
      refine wpAnyH_take (i := 3) (oi := ?oi112) (v := ?v112) ?hi112 (by kernel_rfl) ?hf112 ?hr112 ?hQ112 (Or.inl ⟨?hw112, ?hy112⟩) (by assumption) ?rest112
      case hi112 => simp only [List.getElem?_toArray, List.getElem?_cons_succ, List.getElem?_cons_zero]; rfl
      case hf112 => kernel_rfl
      case hr112 => kernel_rfl
      case hw112 => rfl
      case hy112 => (intro w hSw; (try dsimp only at hSw); go_simp; all_goals (first | done | with_reducible rfl))
      case hQ112 => exact fun _ _ _ h => h
      simp only [Act.put, List.setIfInBounds_toArray, List.set_cons_zero, List.set_cons_succ]
      refine wpAnyH_take (i := 4) (oi := ?oi113) (v := ?v113) ?hi113 (by kernel_rfl) ?hf113 ?hr113 ?hQ113 (Or.inl ⟨?hw113, ?hy113⟩) (by assumption) ?rest113
      case hi113 => simp only [List.getElem?_toArray, List.getElem?_cons_succ, List.getElem?_cons_zero]; rfl
      case hf113 => kernel_rfl
      case hr113 => kernel_rfl
      case hw113 => rfl
      case hy113 => (intro w hSw; (try dsimp only at hSw); go_simp; all_goals (first | done | with_reducible rfl))
      case hQ113 => exact fun _ _ _ h => h
      simp only [Act.put, List.setIfInBounds_toArray, List.set_cons_zero, List.set_cons_succ]
      refine wpAnyH_ready (rs := [5]) (by kernel_rfl) (by simp) ?_
      refine AllReadyH.cons (o := ?oi114) ?hi114 (fun K hK => ?step114) AllReadyH.nil
      case hi114 => simp only [List.getElem?_toArray, List.getElem?_cons_succ, List.getElem?_cons_zero]; rfl
      rw [if_pos (by rfl)]
      go_simp
      go_at_call 138
      refine (CE.out _ HB5.out.drew).mono ?_
      rintro e w6 ⟨rfl, hb⟩
      have hb9 : Below w5.heap.size w5 w6 := (Below.refl _ _).drew.trans hb
      have HB6 := hid (HB5.out.trans (hb9.mono (by have := HB5.out.size; have := HBT.out; omega)))
      have HT6 := hid (HT5.out.to hb9)
      have HK6 := hid (HK5.out.to hb9)
      have HZ6 := hid (HZ5.out.to hb9)
      have HL6 := hid (HL5.out.to hb9)
      clear hb hb9 t0 t1 t2 tf0 tf1 tf2 d0 d1 d2 d3 df0 df1 df2 df3
      obtain ⟨t0, tf0⟩ := HT6.out.2 0 _ rfl
      obtain ⟨t1, tf1⟩ := HT6.out.2 1 _ rfl
      obtain ⟨t2, tf2⟩ := HT6.out.2 2 _ rfl
      obtain ⟨d0, df0⟩ := HK6.out.2 0 _ rfl
      obtain ⟨d1, df1⟩ := HK6.out.2 1 _ rfl
      obtain ⟨d2, df2⟩ := HK6.out.2 2 _ rfl
      obtain ⟨d3, df3⟩ := HK6.out.2 3 _ rfl
      obtain ⟨l0, lf0⟩ := HL6.out.2 0 _ rfl
      obtain ⟨l1, lf1⟩ := HL6.out.2 1 _ rfl
      obtain ⟨l2, lf2⟩ := HL6.out.2 2 _ rfl
      obtain ⟨l3, lf3⟩ := HL6.out.2 3 _ rfl
      obtain ⟨l4, lf4⟩ := HL6.out.2 4 _ rfl
      obtain ⟨l5, lf5⟩ := HL6.out.2 5 _ rfl
      obtain ⟨z0, zf0⟩ := HZ6.out.2 0 _ rfl
      obtain ⟨z1, zf1⟩ := HZ6.out.2 1 _ rfl
      obtain ⟨z2, zf2⟩ := HZ6.out.2 2 _ rfl
      obtain ⟨z3, zf3⟩ := HZ6.out.2 3 _ rfl
      refine hK.out _ _ ⟨t0, t1, t2, d0, d1⟩ (fun hS9 => ?_)
      refine wpAnyH_take (i := 6) (oi := ?oi115) (v := ?v115) ?hi115 (by kernel_rfl) ?hf115 ?hr115 ?hQ115 (Or.inl ⟨?hw115, ?hy115⟩) (by assumption) ?rest115
      case hi115 => simp only [List.getElem?_toArray, List.getElem?_cons_succ, List.getElem?_cons_zero]; rfl
      case hf115 => kernel_rfl
      case hr115 => kernel_rfl
      case hw115 => rfl
      case hy115 => (intro w hSw; (try dsimp only at hSw); go_simp; all_goals (first | done | with_reducible rfl))
      case hQ115 => exact fun _ _ _ h => h
      simp only [Act.put, List.setIfInBounds_toArray, List.set_cons_zero, List.set_cons_succ]
      refine wpAnyH_take (i := 7) (oi := ?oi116) (v := ?v116) ?hi116 (by kernel_rfl) ?hf116 ?hr116 ?hQ116 (Or.inl ⟨?hw116, ?hy116⟩) (by assumption) ?rest116
      case hi116 => simp only [List.getElem?_toArray, List.getElem?_cons_succ, List.getElem?_cons_zero]; rfl
      case hf116 => kernel_rfl
      case hr116 => kernel_rfl
      case hw116 => rfl
      case hy116 => (intro w hSw; (try dsimp only at hSw); go_simp; all_goals (first | done | with_reducible rfl))
      case hQ116 => exact fun _ _ _ h => h
      simp only [Act.put, List.setIfInBounds_toArray, List.set_cons_zero, List.set_cons_succ]
      refine wpAnyH_done (by kernel_rfl) ?_ _
      clear hS
      have sz6 : bt < w6.heap.size := HT6.out.1
      have sz7 : bk < w6.heap.size := HK6.out.1
      have sz8 : bz < w6.heap.size := HZ6.out.1
      have sz9 : bl < w6.heap.size := HL6.out.1
      by_cases hle : lv < le
      · go_wp2_with fail
        have RB := (((HZ6.out.set 0 (.string nm)).set 1 (.int .i64 lv)).set 2 (.string tx)).set 3 (.int .i64 sq)
        have f0 := (RB.2 0 _ rfl).1
        have f1 := (RB.2 1 _ rfl).1
        have f2 := (RB.2 2 _ rfl).1
        have f3 := (RB.2 3 _ rfl).1
        refine bodyPost_ret (v := .tuple #[.agg #[.string nm, .int .i64 lv, .string tx, .int .i64 sq], .int .i64 3]) (by simp [results, Tryz.results125, go_sem, f0, f1, f2, f3]) rfl ?_
        refine ⟨by rw [HX3.out (by first | rfl | trivial) hq hle], ?_⟩
        rw [HBT.out]
        iterate 4 refine Below.setCell ?_ q_bz _
        exact HB6.out
      · go_wp2_with fail
        refine (CF.out _ HB6.out).mono ?_
        rintro e w7 ⟨he, hb⟩
        have HB7 := hid (HB6.out.trans (hb.mono (by have := HB6.out.size; have := HBT.out; omega)))
        have HK7 := hid (HK6.out.to hb)
        have HZ7 := hid (HZ6.out.to hb)
        clear hb t0 t1 t2 tf0 tf1 tf2 d0 d1 d2 d3 df0 df1 df2 df3 z0 z1 z2 z3 zf0 zf1 zf2 zf3 l0 l1 l2 l3 l4 l5 lf0 lf1 lf2 lf3 lf4 lf5
        obtain ⟨d0, df0⟩ := HK7.out.2 0 _ rfl
        obtain ⟨d1, df1⟩ := HK7.out.2 1 _ rfl
        obtain ⟨d2, df2⟩ := HK7.out.2 2 _ rfl
        obtain ⟨d3, df3⟩ := HK7.out.2 3 _ rfl
        obtain ⟨z0, zf0⟩ := HZ7.out.2 0 _ rfl
        obtain ⟨z1, zf1⟩ := HZ7.out.2 1 _ rfl
        obtain ⟨z2, zf2⟩ := HZ7.out.2 2 _ rfl
        obtain ⟨z3, zf3⟩ := HZ7.out.2 3 _ rfl
        have szA : bk < w7.heap.size := HK7.out.1
        have szB : bz < w7.heap.size := HZ7.out.1
        cases fl with
        | none =>
          simp only [recOut, Option.isSome] at he
          subst he
          go_wp2_with fail
          have RB := (((HZ7.out.set 0 (.string nm)).set 1 (.int .i64 lv)).set 2 (.string tx)).set 3 (.int .i64 sq)
          replace RB := RB.alloc (.cells #[.string ⟨#[]⟩, .int .i64 0, .string ⟨#[]⟩, .int .i64 0] 61)
          have f0 := (RB.2 0 _ rfl).1
          have f1 := (RB.2 1 _ rfl).1
          have f2 := (RB.2 2 _ rfl).1
          have f3 := (RB.2 3 _ rfl).1
          refine bodyPost_ret (v := .tuple #[.agg #[.string nm, .int .i64 lv, .string tx, .int .i64 sq], .int .i64 4]) (by simp [results, Tryz.results125, go_sem, f0, f1, f2, f3]) rfl ?_
          refine ⟨by rw [HX4.out (by first | rfl | trivial) hq hle (by first | rfl | trivial)], ?_⟩
          rw [HBT.out]
          refine Below.alloc ?_ (by simp; omega) _
          iterate 4 refine Below.setCell ?_ q_bz _
          exact HB7.out
        | some g =>
          simp only [recOut, Option.isSome] at he
          subst he
          go_wp2_with fail
          have RB := (((HZ7.out.set 0 (.string nm)).set 1 (.int .i64 g)).set 2 (.string tx)).set 3 (.int .i64 sq)
          replace RB := RB.alloc (.cells #[.string nm, .int .i64 g, .string tx, .int .i64 sq] 61)
          have f0 := (RB.2 0 _ rfl).1
          have f1 := (RB.2 1 _ rfl).1
          have f2 := (RB.2 2 _ rfl).1
          have f3 := (RB.2 3 _ rfl).1
          refine bodyPost_ret (v := .tuple #[.agg #[.string nm, .int .i64 g, .string tx, .int .i64 sq], .int .i64 0]) (by simp [results, Tryz.results125, go_sem, f0, f1, f2, f3]) rfl ?_
          refine ⟨by rw [HX5.out g (by first | rfl | trivial) hq hle (by first | rfl | trivial)], ?_⟩
          rw [HBT.out]
          refine Below.alloc ?_ (by simp; omega) _
          iterate 4 refine Below.setCell ?_ q_bz _
          exact HB7.out
end Go.Proofs.YtlifaeleoiodkaaGreatDoor
