/-
  WALKS: the program's looks at a tree: PathOf, ParentOf, ChildrenOf, BranchOf.
-/
import Derived.Test.YtlhelhfaogcibaaN8
namespace Go.Proofs.Ytlhelhfaogcibaa
open Go.RowKit Nm
set_option linter.unusedSimpArgs false
set_option linter.unusedVariables false

def hsAt (L : List Lgr) (k : Nat) : List Name := (L.map (·.hs)).getD k []
def fsAt (L : List Lgr) (k : Nat) : List Flt := (L.map (·.fs)).getD k []
def stopAt (L : List Lgr) (k : Nat) : Bool := (L.map (·.stop)).getD k false
/-- logger k of a valid tree: its cells -/
theorem logger_at {w : World} {B b o n1 k1 : Nat} {ls : List LgrV} {L : List Lgr} (hl : Ls w B n1 (.slice (some ⟨b, o, none⟩) n1 k1) ls) (hL : lsOf ls = L) {k : Nat} (hk : k < n1) :
    ∃ (p : ByteArray) (A3 : Option Addr) (hn k3 : Nat) (A4 : Option Addr) (fn k4 : Nat), p.data.toList = (nsOf L).getD k [] ∧ p.size ≤ maxTxt ∧ Txts w B hn (.slice A3 hn k3) (hsAt L k) ∧ Fs w B fn (.slice A4 fn k4) (fsAt L k) ∧
      w.cell? ⟨b, o + k * 6, none⟩ = some (.string p) ∧ w.cell? ⟨b, o + k * 6 + 1, none⟩ = some (.int .i64 (lvAt L k)) ∧ w.cell? ⟨b, o + k * 6 + 2, none⟩ = some (.slice A3 hn k3) ∧ w.cell? ⟨b, o + k * 6 + 3, none⟩ = some (.slice A4 fn k4) ∧
      w.cell? ⟨b, o + k * 6 + 4, none⟩ = some (.bool (stopAt L k)) ∧ w.cell? ⟨b, o + k * 6 + 5, none⟩ = some (.bool (offAt L k)) := by
  obtain ⟨b', o', y, p, e', hbB, hy, hp, hps, ht, hf, c0, c1, c2, c3, c4, c5⟩ := hl.at_ hk
  obtain ⟨rfl, rfl⟩ : b = b' ∧ o = o' := by simpa using e'
  subst hL
  have e1 : (lsOf ls)[k]? = some y.l := by simp [lsOf, hy]
  have g : ∀ {α : Type} (f : Lgr → α) (d : α), ((lsOf ls).map f).getD k d = f y.l := fun f d => by simp [List.getD, e1]
  obtain ⟨A3, k3, e3, _, _⟩ := ht.1.form
  obtain ⟨A4, k4, e4, _, _⟩ := hf.1.form
  rw [e3] at ht c2
  rw [e4] at hf c3
  refine ⟨p, A3, y.hn, k3, A4, y.fn, k4, hp.trans (g (·.nm) []).symm, hps, ?_, ?_, c0, ?_, c2, c3, ?_, ?_⟩
  · rw [hsAt, g (·.hs) []]; exact ht
  · rw [fsAt, g (·.fs) []]; exact hf
  · rw [lvAt, g (·.lv) 0]; exact c1
  · rw [stopAt, g (·.stop) false]; exact c4
  · rw [offAt, g (·.off) false]; exact c5
/-- node k: its two cells -/
theorem node_at {w : World} {b o : Nat} {ns : List Name} {nb : Nat → Nat} (h : Nodes w b o ns nb (fun _ => false)) {k : Nat} (hk : k < ns.length) :
    w.cell? ⟨nb k, 0, none⟩ = some (.pointer (some ⟨b, o + k * 6, none⟩)) ∧ (ns.getD k [] = [] → w.cell? ⟨nb k, 1, none⟩ = some (.pointer none)) ∧ (ns.getD k [] ≠ [] → w.cell? ⟨nb k, 1, none⟩ = some (.pointer (some ⟨nb (upN ns k), 0, none⟩))) ∧ nb k < w.heap.size := by
  have h0 := h k hk
  refine ⟨(h0.2 0 _ rfl).1, fun e => ?_, fun e => ?_, h0.1⟩
  · have := (h0.2 1 _ rfl).1
    unfold upV at this
    rw [decide_eq_true e] at this
    exact this
  · have := (h0.2 1 _ rfl).1
    unfold upV at this
    rw [decide_eq_false e] at this
    exact this
/-- what is left of a path -/
def remF (ns : List Name) (f : Nat) : Option Nat → List Name
  | none => []
  | some k => (pathF ns f k).map (fun i => ns.getD i [])
def nodePtr (nb : Nat → Nat) (ov : Option Nat) : Value := .pointer (ov.map fun k => ⟨nb k, 0, none⟩)

set_option maxHeartbeats 4000000 in
set_option maxRecDepth 100000 in
theorem implPathOf_c {w : World} {B : Nat} {v : Value} {L : List Lgr} {H : List Hnd} {q : Int} (x : ByteArray) (h : TreeIn w B v L H q) (hB : B ≤ w.heap.size) (hx : x.size ≤ maxLen) :
    Calls Try.prog 17 #[v, .string x] w (StrsPost w (pathT L H q x.data.toList)) := by
  cases hz : (treeOk L H q && nameOk x.data.toList) with
  | false =>
    have C := hid (fun (W : World) (hW : Below w.heap.size w W) => implNode_no x (h.below hW hB) (Nat.le_trans hB hW.size) hx hz)
    have HE := hid (show pathT L H q x.data.toList = [] by unfold pathT; rw [hz]; rfl)
    obtain ⟨A1, n1, k1, A2, n2, k2, rfl⟩ := h.form
    clear h hz
    go_enter Try.func17, Try.ntmps17
    go_wp2_with fail
    refine (C.out _ ?_).mono ?_
    case refine_1 => go_grown
    rintro e w1 ⟨rfl, hb1⟩
    have HB1 := hid (Below.trans (by go_grown) (hb1.mono (by simp; try omega)) : Below w.heap.size w w1)
    clear hb1
    go_wp2_with fail
    go_loopw [5, 6] (fun sv nv wr => sv = .slice none 0 0 ∧ nv = .pointer none ∧ wr = w1) (fun _ _ _ => 0)
    case atStart => exact ⟨rfl, rfl, rfl⟩
    case round =>
      obtain ⟨rfl, rfl, rfl⟩ := hrel
      go_wp2_with fail
      go_ret
      exact ⟨_, rfl, by rw [HE.out]; exact World.ownsRow_nil _ _ _ _, HB1.out⟩
  | true =>
    have hz' := hz
    simp only [Bool.and_eq_true] at hz'
    obtain ⟨b, o, n1, k1, A2, n2, k2, ls, rfl, hl, hL, hN, hn, hn8, hn1, hbB⟩ := h.opened hz'.1
    have C := hid (fun (W : World) (hW : Below w.heap.size w W) => implNode_yes x (h.below hW hB) (hl.below hW hB) hn8 hN (Nat.le_trans hB hW.size) hz'.2 hz'.1)
    obtain ⟨h0, hnd, hnm, _⟩ := tree_ns hz'.1
    have HE := hid (show pathT L H q x.data.toList = remF (nsOf L) 4 (some (nearN (nsOf L) x.data.toList)) by unfold pathT; rw [hz]; rfl)
    have hlen : (nsOf L).length = n1 := by unfold nsOf; rw [List.length_map, hn]
    have HV := hid (And.intro hl (And.intro hL (And.intro hlen (And.intro h0 (And.intro hnm hbB)))))
    have hlt : nearN (nsOf L) x.data.toList < n1 := by rw [← hlen]; exact near_lt h0 _
    clear h hz hz' hl hN h0 hnd hnm hn hlen hL
    generalize hk : nearN (nsOf L) x.data.toList = k0 at *
    clear hk
    go_enter Try.func17, Try.ntmps17
    go_wp2_with fail
    refine (C.out _ ?_).mono ?_
    case refine_1 => go_grown
    rintro e w1 ⟨nb, rfl, hNd, hb1⟩
    have HB1 := hid (Below.trans (by go_grown) (hb1.mono (by simp; try omega)) : Below w.heap.size w w1)
    have HNd := hid hNd
    clear hb1 hNd
    go_wp2_with fail
    go_loopg [5, 6] 5 (fun g sv nv wr => (∃ (ov : Option Nat) (f : Nat) (pre : List Name), nv = nodePtr nb ov ∧ f + 1 = g ∧ Hid (∀ k, ov = some k → k < n1 ∧ depthN (nsOf L) k ≤ f) ∧ wr.ownsRow w1.heap.size 9 1 sv pre.length (pre.map txt) ∧ Hid (pre ++ remF (nsOf L) f ov = remF (nsOf L) 4 (some k0)) ∧ Hid (Below w1.heap.size w1 wr)) ∨
      (nv = .pointer none ∧ ∃ (pre : List Name), wr.ownsRow w1.heap.size 9 1 sv pre.length (pre.map txt) ∧ Hid (pre = remF (nsOf L) 4 (some k0)) ∧ Hid (Below w1.heap.size w1 wr)))
    case atStart => exact .inl ⟨some k0, 4, [], rfl, rfl, fun k hk => by cases hk; exact ⟨hlt, depth_le HV.out.2.2.2.2.1 _⟩, World.ownsRow_nil _ _ _ _, rfl, Below.refl _ _⟩
    case round =>
      rcases hrel with ⟨ov, f, pre, rfl, rfl, HK, hown, HE2, HBx⟩ | ⟨rfl, pre, hown, HE2, HBx⟩
      · cases ov with
        | none =>
          obtain ⟨Ax, cx, rfl, _, _⟩ := (Sl.of_own hown).form
          have HO := hid hown
          have HF := hid (show pathT L H q x.data.toList = pre by rw [HE.out, ← HE2.out]; simp [remF])
          clear hown
          simp only [nodePtr, Option.map_none]
          go_wp2_with fail
          go_ret
          exact ⟨_, rfl, by rw [HF.out]; exact own_base HO.out HB1.out.size, HB1.out.trans (HBx.out.mono HB1.out.size)⟩
        | some k =>
          have HW := hid (HB1.out.trans (HBx.out.mono HB1.out.size))
          obtain ⟨hk, hd⟩ := HK.out k rfl
          obtain ⟨p, A3, hn', k3, A4, fn, k4, hp, hps, _, _, c0, _⟩ := logger_at (HV.out.1.below HW.out hB) HV.out.2.1 hk
          obtain ⟨m0, m1, m2, mlt⟩ := node_at HNd.out (k := k) (by rw [HV.out.2.2.1]; exact hk)
          have n0 := (HBx.out.cell (p := ⟨nb k, 0, none⟩) mlt).trans m0
          have HM := hid (And.intro m1 (And.intro m2 mlt))
          have hpl : pre.length ≤ 5 := by
            have e1 := congrArg List.length HE2.out
            rw [List.length_append] at e1
            have e2 : (remF (nsOf L) 4 (some k0)).length ≤ 5 := by simp only [remF, List.length_map]; exact pathF_len _ _ _
            omega
          have HP := hid hp
          have HO := hid hown
          have HD := hid hd
          have hszz : w.heap.size ≤ w1.heap.size := HB1.out.size
          clear hown m0 m1 m2 mlt hp hps hd
          simp only [nodePtr, Option.map_some]
          go_wp2_with (at_builtin; refine appText _ rfl (.tmp 16) (.tmp 24) rfl w1.heap.size _ pre (by rfl) HO.out p _ _ _ (by rfl) (by simp) (by omega) HBx.out.size ?_)
          intro v' w2 ho2 hb2
          have HO2 := hid ho2
          have HB2 := hid (HBx.out.trans hb2)
          by_cases h0 : (nsOf L).getD k [] = []
          · have n1' := (HB2.out.cell (p := ⟨nb k, 1, none⟩) HM.out.2.2).trans (HM.out.1 h0)
            have HR := hid (pathF_root (f := f) h0)
            clear ho2 hb2 h0 c0 n0
            go_wp2_with fail
            go_roundg f
            case measure => omega
            case rel =>
              refine .inr ⟨rfl, pre ++ [p.data.toList], by simpa using HO2.out, ?_, HB2.out⟩
              show _ = _
              rw [← HE2.out, remF, HR.out, HP.out]; simp
          · have n1' := (HB2.out.cell (p := ⟨nb k, 1, none⟩) HM.out.2.2).trans (HM.out.2.1 h0)
            obtain ⟨g, rfl, hpf⟩ := pathF_up (ns := nsOf L) (f := f) (k := k) h0 HD.out
            have HF := hid hpf
            have HU := hid (show upN (nsOf L) k < n1 ∧ depthN (nsOf L) (upN (nsOf L) k) ≤ g by
              refine ⟨by rw [← HV.out.2.2.1]; exact near_lt HV.out.2.2.2.1 _, ?_⟩
              have := depth_up HV.out.2.2.2.1 HV.out.2.2.2.2.1 (k := k) (by rw [HV.out.2.2.1]; exact hk) h0
              have := HD.out
              omega)
            clear ho2 hb2 h0 hpf c0 n0
            go_wp2_with fail
            go_roundg (g + 1)
            case measure => omega
            case rel =>
              refine .inl ⟨some (upN (nsOf L) k), g, pre ++ [p.data.toList], rfl, rfl, fun k' hk' => by cases hk'; exact HU.out, by simpa using HO2.out, ?_, HB2.out⟩
              show _ = _
              rw [← HE2.out, remF, remF, HF.out, HP.out]; simp
      · obtain ⟨Ax, cx, rfl, _, _⟩ := (Sl.of_own hown).form
        have HO := hid hown
        have HF := hid (show pathT L H q x.data.toList = pre by rw [HE.out, HE2.out])
        clear hown
        go_wp2_with fail
        go_ret
        exact ⟨_, rfl, by rw [HF.out]; exact own_base HO.out HB1.out.size, HB1.out.trans (HBx.out.mono HB1.out.size)⟩
end Go.Proofs.Ytlhelhfaogcibaa
