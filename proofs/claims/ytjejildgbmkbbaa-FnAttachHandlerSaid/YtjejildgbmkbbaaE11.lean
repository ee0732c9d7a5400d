/-
  LAWS OF USERS, plain: a logger is a user just if it has the handler. By gen_users.py.
-/
import Derived.Test.YtjejildgbmkbbaaE10
import Derived.Test.YtjejildgbmkbbaaE8
import Derived.Test.YtjejildgbmkbbaaU1
namespace Go.Proofs.Ytjejildgbmkbbaa
open Go.RowKit Nm
set_option linter.unusedSimpArgs false
set_option linter.unusedVariables false

theorem pick_allU {α : Type} (l : List α) (p : α → Bool) (n : Nat) : rounds (pickIf l fun _ y => p y) n = (l.take n).filter p := by
  induction n with
  | zero => simp [rounds]
  | succ n ih =>
    rw [rounds_succ', ih, List.take_add_one, List.filter_append]
    congr 1
    unfold pickIf
    cases l[n]? with
    | none => rfl
    | some x => simp only [Option.toList]; by_cases hp : p x = true <;> simp [hp]
theorem usersN_eq (L : List Lgr) (x : Name) : usersN L x = (L.filter fun l => decide (x ∈ l.hs)).map (·.nm) := by
  unfold usersN usersK; rw [pick_allU, List.take_length]
theorem users_mem {L : List Lgr} {H : List Hnd} {q : Int} (h : treeOk L H q = true) (x : Name) {k : Nat} (hk : k < L.length) : decide (x ∈ hsAt L k) = decide ((nsOf L).getD k [] ∈ usersT L H q x) := by
  obtain ⟨_, hnd, _⟩ := tree_ns h
  have e : usersT L H q x = usersN L x := by unfold usersT; rw [h]; rfl
  rw [e, usersN_eq]
  obtain ⟨l, hl, hn, hh⟩ := lgr_some hk
  have hlen : (nsOf L).length = L.length := by unfold nsOf; rw [List.length_map]
  refine decide_eq_decide.2 ⟨fun hm => ?_, fun hm => ?_⟩
  · rw [← hn]
    exact List.mem_map.2 ⟨l, List.mem_filter.2 ⟨List.mem_of_getElem? hl, decide_eq_true (by rw [hh]; exact hm)⟩, rfl⟩
  · obtain ⟨l', hm', hn'⟩ := List.mem_map.1 hm
    obtain ⟨hm1, hm2⟩ := List.mem_filter.1 hm'
    obtain ⟨j, hj, ej⟩ := List.getElem_of_mem hm1
    have e2 : (nsOf L).getD j [] = (nsOf L).getD k [] := by rw [← hn']; unfold nsOf; simp [List.getD, hj, ej]
    have hjk := nodup_at hnd (by rw [hlen]; exact hj) (by rw [hlen]; exact hk) e2
    subst hjk
    have : l' = l := by rw [← ej]; rw [List.getElem?_eq_getElem hj] at hl; exact Option.some.inj hl
    subst this
    unfold hsAt
    rw [← hh]; exact of_decide_eq_true hm2
theorem users_le {L : List Lgr} {H : List Hnd} {q : Int} (h : treeOk L H q = true) (x : Name) : (usersT L H q x).length ≤ L.length := by
  unfold usersT; rw [h]; exact usersK_len L x L.length
/-- the laws' hasText, in any later world -/
structure HTB (W0 : World) (v : Value) (s : ByteArray) (b : Bool) : Prop where
  out : ∀ W, Below W0.heap.size W0 W → Calls Try.prog 10 #[v, .string s] W fun e w' => e = .returned (.bool b) ∧ w' = W
theorem htb_use {W0 W : World} {v : Value} {s : ByteArray} {b : Bool} (h : HTB W0 v s b) (hb : Below W0.heap.size W0 W) : Calls Try.prog 10 #[v, .string s] W fun e w' => e = .returned (.bool b) ∧ w' = W := h.out W hb
theorem htb_of {W0 : World} {B n : Nat} {v : Value} {l : List (List UInt8)} {s : ByteArray} (h : Sl W0 B 1 n v (l.map txt)) (hB : B ≤ W0.heap.size) : HTB W0 v s (decide (s.data.toList ∈ l)) :=
  ⟨fun W hW => lawHasText_c v n B l s W (h.below hW hB)⟩
end Go.Proofs.Ytjejildgbmkbbaa
