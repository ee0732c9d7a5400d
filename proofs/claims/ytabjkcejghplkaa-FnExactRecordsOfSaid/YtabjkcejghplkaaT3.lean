/-
  WALKS: differentHandlers, validHandlers, validLoggers, ValidTree of the program.
-/
import Derived.Test.YtabjkcejghplkaaT2
namespace Go.Proofs.Ytabjkcejghplkaa
open Go.RowKit Nm
set_option linter.unusedSimpArgs false
set_option linter.unusedVariables false

theorem set_congr {w : World} {b n : Nat} {f g : List UInt8 → Bool} (h : SetM w b n f) (e : ∀ l, f l = g l) : SetM w b n g := by
  have : f = g := funext e
  rwa [← this]
theorem take_mem (ns : List (List UInt8)) (k : Nat) (x y : List UInt8) (h : ns[k]? = some x) : (y ∈ ns.take (k + 1)) ↔ (y = x ∨ y ∈ ns.take k) := by
  rw [List.take_add_one, h]
  simp only [List.mem_append]
  constructor
  · rintro (h | h)
    · exact .inr h
    · exact .inl (by simpa using h)
  · rintro (h | h)
    · exact .inr (by simpa using h)
    · exact .inl h
theorem nodup_step (ns : List (List UInt8)) (k : Nat) (x : List UInt8) (hx : ns[k]? = some x) (h : (ns.take k).Nodup) (hn : x ∉ ns.take k) : (ns.take (k + 1)).Nodup := by
  rw [List.take_add_one, hx]
  exact List.nodup_append.2 ⟨h, by simp, by intro a ha b hb e; simp at hb; subst hb; subst e; exact hn ha⟩
theorem drop_cons' (l : List (List UInt8)) (p : Nat) (c : List UInt8) (h : l[p]? = some c) : l.drop p = c :: l.drop (p + 1) := by
  obtain ⟨hl, rfl⟩ := List.getElem?_eq_some_iff.1 h
  exact List.drop_eq_getElem_cons hl
theorem not_nodup (ns : List (List UInt8)) (k : Nat) (x : List UInt8) (hx : ns[k]? = some x) (h : x ∈ ns.take k) : ¬ ns.Nodup := by
  intro hn
  have e : ns = ns.take k ++ ns.drop k := (List.take_append_drop k ns).symm
  rw [e, List.nodup_append] at hn
  exact hn.2.2 x h x (by rw [drop_cons' ns k x hx]; simp) rfl

end Go.Proofs.Ytabjkcejghplkaa
