/-
  WALKS: the program's looks at a tree: nearestNode and what hangs on it.
-/
import Derived.Test.YtlhelhfaogcibaaN7
import Derived.Test.YtlhelhfaogcibaaT10
namespace Go.Proofs.Ytlhelhfaogcibaa
open Go.RowKit Nm
set_option linter.unusedSimpArgs false
set_option linter.unusedVariables false

theorem TreeIn.opened {w : World} {B : Nat} {v : Value} {L : List Lgr} {H : List Hnd} {q : Int} (h : TreeIn w B v L H q) (hok : treeOk L H q = true) :
    ∃ b o n1 k1 A2 n2 k2 ls, v = .agg #[.slice (some ⟨b, o, none⟩) n1 k1, .slice A2 n2 k2, .int .i64 q] ∧ Ls w B n1 (.slice (some ⟨b, o, none⟩) n1 k1) ls ∧ lsOf ls = L ∧ lnames ls = nsOf L ∧ n1 = L.length ∧ n1 ≤ 8 ∧ 1 ≤ n1 ∧ b < B := by
  obtain ⟨A1, n1, k1, A2, n2, k2, rfl⟩ := h.form
  obtain ⟨ls, hl, hL⟩ := h.loggers
  obtain ⟨_, _, _, h8, h1, _⟩ := tree_names hok
  have hn : n1 = L.length := by rw [← hL, ← hl.count]; simp [lsOf]
  obtain ⟨b, o, x, s, rfl, hb, _⟩ := hl.at_ (k := 0) (by omega)
  exact ⟨b, o, n1, k1, A2, n2, k2, ls, rfl, hl, hL, by rw [← hL, ← namesOf_ls]; rfl, hn, by omega, by omega, hb⟩
def NodePost (w : World) (b o : Nat) (ns : List Name) (k : Nat) (e : Ending) (w' : World) : Prop :=
  ∃ nb, e = .returned (.pointer (some ⟨nb k, 0, none⟩)) ∧ Nodes w' b o ns nb (fun _ => false) ∧ Below w.heap.size w w'

set_option maxHeartbeats 2000000 in
set_option maxRecDepth 100000 in
theorem implNode_no {w : World} {B : Nat} {v : Value} {L : List Lgr} {H : List Hnd} {q : Int} (x : ByteArray) (h : TreeIn w B v L H q) (hB : B ≤ w.heap.size) (hx : x.size ≤ maxLen) (hno : (treeOk L H q && nameOk x.data.toList) = false) :
    Calls Try.prog 44 #[v, .string x] w (fun e w' => e = .returned (.pointer none) ∧ Below w.heap.size w w') := by
  have C := hid (fun (W : World) (hW : Below w.heap.size w W) => implValidTreeX_c (h.below hW hB) (Nat.le_trans hB hW.size))
  have V := hid (fun (W : World) => implValidName_c x W hx)
  obtain ⟨A1, n1, k1, A2, n2, k2, rfl⟩ := h.form
  clear h
  cases hz : treeOk L H q with
  | false =>
    rw [hz] at C
    clear hno hz
    go_enter Try.func44, Try.ntmps44
    go_wp2_with fail
    refine (C.out _ ?_).mono ?_
    case refine_1 => go_grown
    rintro e w1 ⟨rfl, hb1⟩
    have HB1 := hid (Below.trans (by go_grown) (hb1.mono (by simp; try omega)) : Below w.heap.size w w1)
    clear hb1
    go_wp2_with fail
    go_ret
    exact ⟨rfl, HB1.out⟩
  | true =>
    rw [hz] at C hno
    rw [Bool.true_and] at hno
    rw [hno] at V
    clear hno hz
    go_enter Try.func44, Try.ntmps44
    go_wp2_with fail
    refine (C.out _ ?_).mono ?_
    case refine_1 => go_grown
    rintro e w1 ⟨rfl, hb1⟩
    have HB1 := hid (Below.trans (by go_grown) (hb1.mono (by simp; try omega)) : Below w.heap.size w w1)
    clear hb1
    go_wp2_with fail
    refine (V.out _).mono ?_
    rintro e w2 ⟨rfl, hb2⟩
    have HB2 := hid (HB1.out.trans (hb2.mono HB1.out.size))
    clear hb2
    go_wp2_with fail
    go_ret
    exact ⟨rfl, HB2.out⟩

set_option maxHeartbeats 2000000 in
set_option maxRecDepth 100000 in
theorem implNode_yes {w : World} {B b o n1 k1 n2 k2 : Nat} {A2 : Option Addr} {L : List Lgr} {H : List Hnd} {q : Int} {ls : List LgrV} (x : ByteArray) (h : TreeIn w B (.agg #[.slice (some ⟨b, o, none⟩) n1 k1, .slice A2 n2 k2, .int .i64 q]) L H q)
    (hl : Ls w B n1 (.slice (some ⟨b, o, none⟩) n1 k1) ls) (hn : n1 ≤ 8) (hL : lnames ls = nsOf L) (hB : B ≤ w.heap.size) (hx : nameOk x.data.toList = true) (hok : treeOk L H q = true) :
    Calls Try.prog 44 #[.agg #[.slice (some ⟨b, o, none⟩) n1 k1, .slice A2 n2 k2, .int .i64 q], .string x] w (NodePost w b o (nsOf L) (nearN (nsOf L) x.data.toList)) := by
  have hxs : x.size ≤ maxLen := by have := name_size _ hx; rw [← Lib.size_eq] at this; unfold maxLen; omega
  obtain ⟨h0, hnd, hnm, _⟩ := tree_ns hok
  have C := hid (fun (W : World) (hW : Below w.heap.size w W) => implValidTreeX_c (h.below hW hB) (Nat.le_trans hB hW.size))
  have V := hid (fun (W : World) => implValidName_c x W hxs)
  have G := hid (fun (W : World) (hW : Below w.heap.size w W) => implHang_c none A2 n1 k1 n2 k2 B b o q ls W (hl.below hW hB) (Nat.le_trans hB hW.size) (by omega) (by rw [hL]; exact h0) (by rw [hL]; exact hnd) (by rw [hL]; exact hnm))
  have N := hid (fun (M m : Nat) (nb : Nat → Nat) (W : World) (hM : MapP W M m (gF (nsOf L) nb (nsOf L).length)) => implNearest_c M m (nsOf L) nb x W hM h0 hnd hx)
  rw [hL] at G
  rw [hx] at V
  rw [hok] at C
  clear h hl h0 hnd hnm hx hok hL
  go_enter Try.func44, Try.ntmps44
  go_wp2_with fail
  refine (C.out _ ?_).mono ?_
  case refine_1 => go_grown
  rintro e w1 ⟨rfl, hb1⟩
  have K1 := (Blk.new _ _ _).to hb1
  simp only [World.size_alloc] at K1
  have HK1 := hid K1
  have d0 := (HK1.out.2 0 _ rfl).1
  have d1 := (HK1.out.2 1 _ rfl).1
  have d2 := (HK1.out.2 2 _ rfl).1
  have HB1 := hid (Below.trans (by go_grown) (hb1.mono (by simp; try omega)) : Below w.heap.size w w1)
  clear hb1 K1
  go_wp2_with fail
  refine (V.out _).mono ?_
  rintro e w2 ⟨rfl, hb2⟩
  have HB2 := hid (HB1.out.trans (hb2.mono HB1.out.size))
  have HK2 := hid (HK1.out.to hb2)
  clear hb2 d0 d1 d2
  have d0 := (HK2.out.2 0 _ rfl).1
  have d1 := (HK2.out.2 1 _ rfl).1
  have d2 := (HK2.out.2 2 _ rfl).1
  go_wp2_with fail
  refine (G.out _ HB2.out).mono ?_
  rintro e w3 ⟨M, nb, m, rfl, hM, hN, hb3⟩
  have HB3 := hid (HB2.out.trans (hb3.mono HB2.out.size))
  have HN := hid hN
  have NE := hid (N.out M m nb w3 hM)
  clear hb3 d0 d1 d2 hN hM
  go_wp2_with fail
  refine (NE.out).mono ?_
  rintro e w4 ⟨rfl, rfl⟩
  go_wp2_with fail
  go_ret
  exact ⟨nb, rfl, HN.out, HB3.out⟩

set_option maxHeartbeats 2000000 in
set_option maxRecDepth 100000 in
theorem implNearestTo_c {w : World} {B : Nat} {v : Value} {L : List Lgr} {H : List Hnd} {q : Int} (x : ByteArray) (h : TreeIn w B v L H q) (hB : B ≤ w.heap.size) (hx : x.size ≤ maxLen) :
    Calls Try.prog 14 #[v, .string x] w (fun e w' => e = .returned (txt (nearestT L H q x.data.toList)) ∧ Below w.heap.size w w') := by
  cases hz : (treeOk L H q && nameOk x.data.toList) with
  | false =>
    have C := hid (fun (W : World) (hW : Below w.heap.size w W) => implNode_no x (h.below hW hB) (Nat.le_trans hB hW.size) hx hz)
    have HE := hid (show nearestT L H q x.data.toList = [] by unfold nearestT; rw [hz]; rfl)
    obtain ⟨A1, n1, k1, A2, n2, k2, rfl⟩ := h.form
    clear h hz
    go_enter Try.func14, Try.ntmps14
    go_wp2_with fail
    refine (C.out _ ?_).mono ?_
    case refine_1 => go_grown
    rintro e w1 ⟨rfl, hb1⟩
    have HB1 := hid (Below.trans (by go_grown) (hb1.mono (by simp; try omega)) : Below w.heap.size w w1)
    clear hb1
    go_wp2_with fail
    go_ret
    exact ⟨by rw [HE.out]; rfl, HB1.out⟩
  | true =>
    have hz' := hz
    simp only [Bool.and_eq_true] at hz'
    obtain ⟨b, o, n1, k1, A2, n2, k2, ls, rfl, hl, hL, hN, hn, hn8, hn1, hbB⟩ := h.opened hz'.1
    have C := hid (fun (W : World) (hW : Below w.heap.size w W) => implNode_yes x (h.below hW hB) (hl.below hW hB) hn8 hN (Nat.le_trans hB hW.size) hz'.2 hz'.1)
    have hlt := near_lt (tree_ns hz'.1).1 x.data.toList
    have HE := hid (show nearestT L H q x.data.toList = (nsOf L).getD (nearN (nsOf L) x.data.toList) [] by unfold nearestT; rw [hz]; rfl)
    have HV := hid (And.intro hl (And.intro hN hbB))
    have hlen : (nsOf L).length = n1 := by unfold nsOf; rw [List.length_map, hn]
    have hlt' : nearN (nsOf L) x.data.toList < n1 := by rw [← hlen]; exact hlt
    have HLn := hid hlen
    clear h hz hz' hl hN hlt hn hlen
    generalize hk : nearN (nsOf L) x.data.toList = k at *
    clear hk
    go_enter Try.func14, Try.ntmps14
    go_wp2_with fail
    refine (C.out _ ?_).mono ?_
    case refine_1 => go_grown
    rintro e w1 ⟨nb, rfl, hNd, hb1⟩
    have HB1 := hid (Below.trans (by go_grown) (hb1.mono (by simp; try omega)) : Below w.heap.size w w1)
    obtain ⟨b', o', y, p, e', hbB', hy, hp, hps, _, _, g0, _⟩ := (HV.out.1.below HB1.out hB).at_ hlt'
    obtain ⟨rfl, rfl⟩ : b = b' ∧ o = o' := by simpa using e'
    have c0 := (hNd k (by rw [HLn.out]; exact hlt')).2 0 _ rfl
    have c0' := c0.1
    have HP := hid (show (nsOf L).getD k [] = p.data.toList by rw [← HV.out.2.1, lnames_at hy, hp])
    clear hb1 hNd hy hp hps e' c0
    go_wp2_with fail
    go_ret
    exact ⟨by rw [HE.out, HP.out, txt_data]; rfl, HB1.out⟩
end Go.Proofs.Ytlhelhfaogcibaa
