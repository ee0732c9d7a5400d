/-
  WALKS: the words of a name (impl.wordLength, impl.wordsOf, impl.ValidName, impl.PartsOf).
-/
import Derived.Test.YtlhelhfaogcibaaChecked
import Derived.Test.YtlhelhfaogcibaaWords
import Derived.Lib.IndexBytes
import Derived.Deep.LoopGhost
namespace Go.Proofs.Ytlhelhfaogcibaa
open Go.RowKit Nm

theorem dec_cases (s : ByteArray) (p : Nat) (h : p < s.size) : ∃ c, s.data.toList[p]? = some c ∧
    ((c.toNat < 128 ∧ Utf8.decode s p = (c.toNat, 1)) ∨ (128 ≤ c.toNat ∧ 128 ≤ (Utf8.decode s p).1)) := by
  refine ⟨s[p], Lib.data_getElem? s p h, ?_⟩
  by_cases ha : (s[p]'h).toNat < 128
  · exact .inl ⟨ha, decode_ascii s p h ha⟩
  · exact .inr ⟨by omega, (decode_high s p h (by omega)).1⟩
theorem wl_stop (s : ByteArray) (p : Nat) (h : p < s.size) (h4 : p ≤ 4) (hl : (s.data.toList.take p).all low = true) (e : ((Utf8.decode s p).1 : Int) = 46) : wlen s.data.toList = p := by
  obtain ⟨c, hc, ⟨_, hd⟩ | ⟨_, hd⟩⟩ := dec_cases s p h
  · rw [hd] at e
    have : c = 46 := UInt8.toNat_inj.1 (by simp at e ⊢; omega)
    subst this
    exact wlen_stop _ _ hl h4 hc
  · omega
theorem wl_bad (s : ByteArray) (p : Nat) (h : p < s.size) (hl : (s.data.toList.take p).all low = true) (e : ¬ ((Utf8.decode s p).1 : Int) = 46)
    (hb : ((Utf8.decode s p).1 : Int) < 97 ∨ 122 < ((Utf8.decode s p).1 : Int) ∨ 4 ≤ p) : wlen s.data.toList = 0 := by
  obtain ⟨c, hc, ⟨_, hd⟩ | ⟨ha, hd⟩⟩ := dec_cases s p h
  · rw [hd] at e hb
    refine wlen_bad _ p c hl hc (by rintro rfl; simp at e) ?_
    rcases hb with hb | hb | hb
    · exact .inl (low_false c (by simp at hb; omega))
    · exact .inl (low_false c (by simp at hb; omega))
    · exact .inr hb
  · exact wlen_bad _ p c hl hc (by rintro rfl; simp at ha) (.inl (low_false c (by omega)))
theorem wl_go (s : ByteArray) (p : Nat) (h : p < s.size) (hl : (s.data.toList.take p).all low = true) (h1 : 97 ≤ ((Utf8.decode s p).1 : Int)) (h2 : ((Utf8.decode s p).1 : Int) ≤ 122) :
    (Utf8.decode s p).2 = 1 ∧ (s.data.toList.take (p + 1)).all low = true := by
  obtain ⟨c, hc, ⟨_, hd⟩ | ⟨ha, hd⟩⟩ := dec_cases s p h
  · rw [hd] at h1 h2 ⊢
    exact ⟨rfl, take_low _ p c hl hc ((low_iff c).2 (by simp at h1 h2; omega))⟩
  · omega

set_option maxHeartbeats 1000000 in
set_option maxRecDepth 100000 in
theorem wordLength_c (s : ByteArray) (w : World) (hs : s.size ≤ maxLen) :
    Calls Try.prog 96 #[.string s] w fun e w' => e = .returned (.int .i64 (wlen s.data.toList)) ∧ Below w.heap.size w w' := by
  unfold maxLen at hs
  go_enter Try.func96, Try.ntmps96
  go_wp2
  go_step3
  go_wp2
  go_step3
  go_wp2
  go_loopw [3] (fun n wr => ∃ p : Nat, wr = w.iter s p ∧ p ≤ s.size ∧ p ≤ 4 ∧ n = .int .i64 p ∧ (s.data.toList.take p).all low = true) (fun _ wr => s.size - wr.iterPos w.heap.size)
  case atStart => exact ⟨0, rfl, by omega, by omega, rfl, by simp⟩
  case round =>
    obtain ⟨p, rfl, hp, h4, rfl, hlow⟩ := hrel
    by_cases hlt : p < s.size
    · have hnx : ∀ ty, (Instr.next (.pointer (some ⟨w.heap.size, 0, none⟩)) true ty).run Try.prog (w.iter s p) = _ := fun ty => run_next_any w s p ty hlt
      have hd := decode_le s p
      have HL := hid hlow
      clear hlow
      go_wp2
      all_goals first
        | (refine ⟨⟨p + 1, ?_, by omega, ?_, by go_num, ?_⟩, ?_⟩
           all_goals
             obtain ⟨e2, e3⟩ := wl_go s p hlt HL.out (by assumption) (by assumption)
           · rw [e2]
           · have : ¬ p = 4 := by
               rintro rfl
               have : ¬ (97 ≤ ((Utf8.decode s 4).1 : Int) ∧ ((Utf8.decode s 4).1 : Int) ≤ 122 ∧ True) := by simp_all
               simp_all
             omega
           · exact e3
           · rw [e2]; simp; omega)
        | (have e1 : (((Utf8.decode s p).1 : Int) == 46) = true := by assumption
           rw [Exit.noGoto_ret]
           go_ret
           exact ⟨ret_int (by rw [wl_stop s p hlt h4 HL.out (by simpa using e1)]), below_iter (Nat.le_refl _) _ _⟩)
        | (have e1 : (((Utf8.decode s p).1 : Int) == 46) = false := by assumption
           have e2 : ((Utf8.decode s p).1 : Int) < 97 ∨ 122 < ((Utf8.decode s p).1 : Int) ∨ 4 ≤ p := by
             first
               | omega
               | (rename_i h; simp at h; omega)
           try rw [Exit.noGoto_ret]
           go_ret
           exact ⟨ret_int (by rw [wl_bad s p hlt HL.out (by simpa using e1) e2]; rfl), below_iter (Nat.le_refl _) _ _⟩)
    · have hnx : ∀ ty, (Instr.next (.pointer (some ⟨w.heap.size, 0, none⟩)) true ty).run Try.prog (w.iter s p) = _ := fun ty => run_next_end w s p ty hlt
      have HL := hid hlow
      clear hlow
      go_wp2
      rw [Exit.noGoto_ret]
      go_ret
      have e : p = s.size := by omega
      subst e
      refine ⟨ret_int ?_, below_iter (Nat.le_refl _) _ _⟩
      rw [wlen_end _ (by have := HL.out; rwa [List.take_of_length_le (by rw [← Lib.size_eq]; exact Nat.le_refl _)] at this) (by rw [← Lib.size_eq]; exact h4), ← Lib.size_eq]

theorem Try.infoStr : (Try.prog.info? 9).map (fun i => (i.zero, i.size, i.bytes)) = some (some (.string ByteArray.empty), 1, 16) := by kernel_rfl
theorem own_txt (w : World) (base n : Nat) (v : Value) (ws : List (List UInt8)) (l : List UInt8) (h : w.ownsRow base 9 1 v (n + 1) (ws.map txt ++ [txt l])) (hn : n = ws.length) :
    w.ownsRow base 9 1 v (ws ++ [l]).length ((ws ++ [l]).map txt) := by
  subst hn
  simpa using h
/-- the words of a name, none for other texts -/
def pw (l : List UInt8) : List (List UInt8) := if nameOk l then partsL l else []
def WordsPost (w : World) (l : List UInt8) (e : Ending) (w' : World) : Prop :=
  ∃ v, e = .returned (.tuple #[v, .bool (nameOk l)]) ∧ w'.ownsRow w.heap.size 9 1 v (pw l).length ((pw l).map txt) ∧ Below w.heap.size w w'
theorem words_none (w w' : World) (l : List UInt8) (h : nameOk l = false) (hb : Below w.heap.size w w') : WordsPost w l (.returned (.tuple #[.slice none 0 0, .bool false])) w' := by
  refine ⟨_, by rw [h], ?_, hb⟩
  rw [pw, h]; exact World.ownsRow_nil _ _ _ _
theorem words_root (w w' : World) (l : List UInt8) (h : l = []) (hb : Below w.heap.size w w') : WordsPost w l (.returned (.tuple #[.slice none 0 0, .bool true])) w' := by
  subst h
  exact ⟨_, rfl, World.ownsRow_nil _ _ _ _, hb⟩
theorem words_some (w w' : World) (l : List UInt8) (v : Value) (ws : List (List UInt8)) (h : nameOk l = true ∧ partsL l = ws) (ho : w'.ownsRow w.heap.size 9 1 v ws.length (ws.map txt)) (hb : Below w.heap.size w w') :
    WordsPost w l (.returned (.tuple #[v, .bool true])) w' := by
  refine ⟨v, by rw [h.1], ?_, hb⟩
  rw [pw, h.1, h.2]; exact ho

set_option maxHeartbeats 1000000 in
set_option maxRecDepth 100000 in
theorem wordsOf_c (s : ByteArray) (w : World) (hs : s.size ≤ maxLen) :
    Calls Try.prog 80 #[.string s] w (WordsPost w s.data.toList) := by
  unfold maxLen at hs
  obtain ⟨i0, hi, hz0, hz1, hz2⟩ := info_parts Try.infoStr
  by_cases hne : s.data.toList = []
  · have he : s.toList.isEmpty = true := by rw [ByteArray.toList_eq, hne]; rfl
    go_enter Try.func80, Try.ntmps80
    go_wp2_with fail
    go_ret2
    exact words_root w _ _ hne (Below.refl _ _)
  have he : s.toList.isEmpty = false := by
    rw [ByteArray.toList_eq]
    cases h : s.data.toList with
    | nil => exact absurd h hne
    | cons a l => rfl
  have HN := hid hne
  clear hne
  go_enter Try.func80, Try.ntmps80
  go_wp2_with fail
  go_loopg [0, 4] 4 (fun g sv v wr => ∃ (r : ByteArray) (ws : List (List UInt8)), sv = .string r ∧ WInv s.data.toList ws r.data.toList ∧ r.size ≤ s.size ∧
    wr.ownsRow w.heap.size 9 1 v ws.length (ws.map txt) ∧ Below w.heap.size w wr ∧ ws.length + g = 4)
  case atStart => exact ⟨s, [], rfl, WInv.start HN.out, Nat.le_refl _, World.ownsRow_nil _ _ _ _, Below.refl _ _, by simp⟩
  case round =>
    obtain ⟨r, ws, rfl, hI, hrs, hown, hb, hg⟩ := hrel
    obtain ⟨A, c, rfl, hnc, hcm⟩ := (Sl.of_own hown).form
    have HG := hid hg
    by_cases h4 : ws.length < 4
    · have hcall := wordLength_c r wr (by unfold maxLen; omega)
      obtain ⟨n, hn⟩ : ∃ n, wlen r.data.toList = n := ⟨_, rfl⟩
      have hnr : n ≤ r.size := by
        by_cases h0 : wlen r.data.toList = 0
        · omega
        · have := (wlen_pos _ h0).2.2.1; rw [hn, ← Lib.size_eq] at this; exact this
      rw [hn] at hcall
      have HN1 := hid hn
      clear hn hg
      by_cases h0 : n = 0
      · have b0 : ((n : Int) == 0) = true := by rw [h0]; rfl
        have H0 := hid h0
        clear h0
        go_wp2_with fail
        refine hcall.mono ?_
        rintro e w1 ⟨rfl, hb1⟩
        go_wp2_with fail
        go_ret2
        refine words_none _ _ _ (hI.bad (by rw [HN1.out]; exact H0.out)) (hb.trans (hb1.mono hb.size))
      have b0 : ((n : Int) == 0) = false := by simpa using h0
      have h0' : n ≠ 0 := h0
      by_cases h1 : (n : Int) = (r.size : Int)
      · have b1 : ((n : Int) == (r.size : Int)) = true := by simpa using h1
        have hx : r.extract 0 n = ⟨(r.data.toList.take n).toArray⟩ := by rw [Lib.extract_eq]; simp
        have fin := hI.done (by rw [HN1.out]; exact h0') (by rw [HN1.out, ← Lib.size_eq]; omega) h4
        rw [HN1.out] at fin
        have F := hid (And.intro fin hx)
        clear h1 fin hx
        go_wp2_with fail
        refine hcall.mono ?_
        rintro e w1 ⟨rfl, hb1⟩
        have hown1 := own_below hown hb1
        go_wp2_with (at_builtin; refine wpList_app1 w1 rfl (.tmp 15) (.tmp 19) 35 rfl w.heap.size 9 i0 (.string ByteArray.empty) 1 16 Try.underlying35 hi hz0 hz1 hz2 rfl (by decide) _ _ _ (by rfl) hown1 [.string (r.extract 0 n)] 1 9 (by rfl) rfl (one_cell rfl) (by unfold maxLen; omega) (by omega) (by have := hb.size; have := hb1.size; omega) ?_)
        intro v' w2 hown2 hb2
        have hB := hb.trans ((hb1.mono hb.size).trans hb2)
        obtain ⟨fin, hx⟩ := F.out
        rw [hx] at hown2
        have R := words_some w w2 s.data.toList v' _ fin (own_txt _ _ _ _ _ _ hown2 rfl) hB
        clear hown2 hb2 hown1 hown hB fin hx F HN1
        have R1 := hid R
        clear R
        go_wp2_with fail
        go_ret2
        exact R1.out
      · have b1 : ((n : Int) == (r.size : Int)) = false := by simpa using h1
        have hx : r.extract 0 n = ⟨(r.data.toList.take n).toArray⟩ := by rw [Lib.extract_eq]; simp
        obtain ⟨hlt, hI2⟩ := hI.next (by rw [HN1.out]; exact h0') (by rw [HN1.out, ← Lib.size_eq]; omega) h4
        rw [HN1.out] at hlt hI2
        rw [← Lib.size_eq] at hlt
        have F := hid hx
        have HI := hid hI2
        have hL := HG.out
        clear h1 hx hI2 hI
        go_wp2_with fail
        refine hcall.mono ?_
        rintro e w1 ⟨rfl, hb1⟩
        have hown1 := own_below hown hb1
        go_wp2_with (at_builtin; refine wpList_app1 w1 rfl (.tmp 15) (.tmp 19) 35 rfl w.heap.size 9 i0 (.string ByteArray.empty) 1 16 Try.underlying35 hi hz0 hz1 hz2 rfl (by decide) _ _ _ (by rfl) hown1 [.string (r.extract 0 n)] 1 9 (by rfl) rfl (one_cell rfl) (by unfold maxLen; omega) (by omega) (by have := hb.size; have := hb1.size; omega) ?_)
        intro v' w2 hown2 hb2
        have hB := hb.trans ((hb1.mono hb.size).trans hb2)
        rw [F.out] at hown2
        have R := own_txt _ _ _ _ _ _ hown2 rfl
        clear hown2 hb2 hown1 hown hL
        go_wp2_with fail
        have hG := HG.out
        go_roundg (3 - ws.length)
        case measure => omega
        case rel => exact ⟨_, ws ++ [r.data.toList.take n], rfl, by rw [Lib.extract_to_end]; exact HI.out, by simp; omega, R, hB, by simp; omega⟩
    · have hg0 : ws.length = 4 := by omega
      have H0 := hid hg0
      clear hg hg0
      go_wp2_with fail
      go_ret2
      exact words_none _ _ _ (hI.full H0.out) hb
end Go.Proofs.Ytlhelhfaogcibaa
