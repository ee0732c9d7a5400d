/-
  detach: a handler taken away from a logger of a tree of the call's own.
-/
import Derived.Test.YtioegkcekbkblaaGreatDL5
import Derived.Test.YtioegkcekbkblaaGreatDL3
namespace Go.Proofs.YtioegkcekbkblaaGreat
open Go.RowKit Nm
set_option linter.unusedSimpArgs false
set_option linter.unusedVariables false

theorem two_apart {w : World} {lo n c g k : Nat} {ls : List LgrV} {post : List Row} {x : LgrV} (h : Rows w lo ([] ++ two 72 6 n (.slice (some ⟨g, 0, none⟩) n c) lcells lrows ls ++ post)) (hx : ls[k]? = some x) : some g ≠ x.hv.ownBlock := by
  have h2 := h.2
  rw [List.nil_append, two, List.cons_append] at h2
  have := (List.pairwise_cons.1 h2).1 ⟨9, 1, x.hn, x.hv, x.l.hs.map txt⟩ (List.mem_append.2 (.inl (List.mem_flatMap.2 ⟨x, List.mem_of_getElem? hx, by simp [lrows]⟩)))
  rcases this.1 with h0 | h0
  · cases h0
  · exact h0

set_option maxHeartbeats 8000000 in
set_option maxRecDepth 100000 in
theorem detach_c {W : World} {lo n c g k : Nat} {ls : List LgrV} {post : List Row} {x : LgrV} (s : ByteArray) (hR : Rows W lo ([] ++ two 72 6 n (.slice (some ⟨g, 0, none⟩) n c) lcells lrows ls ++ post)) (hx : ls[k]? = some x) (hn : x.l.hs.length ≤ 64) (hlo : lo ≤ W.heap.size) :
    Calls Tryz.prog 73 #[.pointer (some ⟨g, k * 6, none⟩), .string s] W (fun e w' => e = .returned (.tuple #[]) ∧ ∃ v', v'.ownBlock = x.hv.ownBlock ∧
      Rows w' lo ([] ++ two 72 6 n (.slice (some ⟨g, 0, none⟩) n c) lcells lrows (ls.set k ⟨woL s.data.toList x.l, v', (x.l.hs.filter (notS s.data.toList)).length, x.fv, x.fn⟩) ++ post) ∧ Below lo W w' ∧ ∀ b cs, b ≠ g → some b ≠ x.hv.ownBlock → Blk W b cs → Blk w' b cs) := by
  have hgx := two_apart hR hx
  have own6 : W.ownsRow lo 9 1 x.hv x.hn (x.l.hs.map txt) := hR.sub_ hx (r := ⟨9, 1, x.hn, x.hv, x.l.hs.map txt⟩) (by simp [lrows])
  have o2 := hR.cell_at (j := 2) lcells_len hx rfl
  have hgl : lo ≤ g := (hR.top.lt g rfl).1
  have hgw : g < W.heap.size := (hR.top.lt g rfl).2
  have hba : Below W.heap.size W (W.alloc (.cells #[.string s] 9)) := (Below.refl _ _).alloc (Nat.le_refl _) _
  have hxn : x.hn ≤ 64 := by have := own6.1; simp at this; omega
  have hne : x.hv.ownBlock ≠ some W.heap.size := fun e => by have := (own6.lt _ e).2; omega
  have CD := hid (deleteTxt_c (bx := W.heap.size) s (own_below own6 hba) hxn (Nat.le_trans hlo hba.size) (by simp) hne)
  obtain ⟨A6, c6, e6, _, _⟩ := (Sl.of_own own6).form
  have HX := hid hx
  have HG := hid (And.intro hgx hne)
  have HRa := hid (hR.below hba)
  have HBa := hid hba
  have HO2 := hid o2
  have HE6 := hid e6
  have m0 : W.cell? ⟨g, k * 6 + 2, none⟩ = some (.slice A6 x.hn c6) := by rw [← e6]; exact o2.1
  have hmf : ∀ (fn : Fn) (first cap : Array Value) (w : World), (Instr.makeFunc fn first cap).run Tryz.prog w = .ok (.func fn first cap) w := fun _ _ _ _ => rfl
  rw [e6] at CD
  clear hx hgx own6 o2 hba hne e6 hR
  go_enter Tryz.func73, Tryz.ntmps73
  go_wp2_with fail
  refine (CD.out).mono ?_
  rintro e w1 ⟨v', rfl, ho1, hg1, hv1⟩
  obtain ⟨A7, c7, rfl, _, _⟩ := (Sl.of_own ho1).form
  have hgb : some g ≠ (Value.slice A6 x.hn c6).ownBlock := by rw [← HE6.out]; exact HG.out.1
  have m1 : w1.cell? ⟨g, k * 6 + 2, none⟩ = some (.slice A6 x.hn c6) := (World.cell?_of_block (hg1.block g (Nat.lt_of_lt_of_le hgw HBa.out.size) hgb)).trans ((HBa.out.cell (p := ⟨g, k * 6 + 2, none⟩) hgw).trans m0)
  have f1 : w1.frozen? ⟨g, k * 6 + 2, none⟩ = false := (World.frozen?_of_block (hg1.block g (Nat.lt_of_lt_of_le hgw HBa.out.size) hgb)).trans ((HBa.out.frozen (p := ⟨g, k * 6 + 2, none⟩) hgw).trans HO2.out.2)
  have HR1 := hid (HRa.out.rowcell (w' := w1) (j := 0) (q := 2) (e := 2) (x := x) (y := ⟨woL s.data.toList x.l, .slice A7 (x.l.hs.filter (notS s.data.toList)).length c7, (x.l.hs.filter (notS s.data.toList)).length, x.fv, x.fn⟩)
    (r := ⟨9, 1, x.hn, x.hv, x.l.hs.map txt⟩) (r' := ⟨9, 1, (x.l.hs.filter (notS s.data.toList)).length, .slice A7 (x.l.hs.filter (notS s.data.toList)).length c7, (x.l.hs.filter (notS s.data.toList)).map txt⟩) (u := .slice A7 (x.l.hs.filter (notS s.data.toList)).length c7)
    lcells_len lrows_len HX.out (by omega) rfl (by show World.grownBy _ _ x.hv.ownBlock; rw [HE6.out]; exact hg1) ho1 (fun z hz => .inl (by show x.hv.ownBlock = some z; rw [HE6.out, ← hv1]; exact hz)) (by omega) rfl rfl)
  have HB1 := hid (show Below lo W w1 from (HBa.out.mono hlo).grown hg1 (Nat.le_trans hlo HBa.out.size) (fun z hz => by
    have h9 := HRa.out.sub_ HX.out (r := ⟨9, 1, x.hn, x.hv, x.l.hs.map txt⟩) (by simp [lrows])
    exact (h9.lt z (by show x.hv.ownBlock = some z; rw [HE6.out]; exact hz)).1))
  have HK1 := hid (fun (b : Nat) (cs : List Value) (h1 : b ≠ g) (h2 : some b ≠ x.hv.ownBlock) (hk : Blk W b cs) => (((hk.to HBa.out).kept hg1 (show some b ≠ _ by rw [← HE6.out]; exact h2)).apart ⟨g, k * 6 + 2, none⟩ (.slice A7 (x.l.hs.filter (notS s.data.toList)).length c7) (show g ≠ b from fun e => h1 e.symm)))
  have HV := hid hv1
  clear ho1 hg1 hv1 hgb m0
  go_wp2_with fail
  go_end0
  refine ⟨rfl, _, ?_, HR1.out, HB1.out.setCell hgl _, HK1.out⟩
  rw [HE6.out]; exact HV.out
end Go.Proofs.YtioegkcekbkblaaGreat
