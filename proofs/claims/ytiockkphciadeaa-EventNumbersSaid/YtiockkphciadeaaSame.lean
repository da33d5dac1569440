/-
  SameBytes, CopyBytes, Pick: what statements do with lists.
-/
import Derived.Test.YtiockkphciadeaaMem
import Derived.Test.YtiockkphciadeaaProg
import Derived.Lib.UnsafeStr
import Derived.Lib.Hide
set_option linter.unusedVariables false
set_option linter.unusedSimpArgs false
namespace Go.Proofs.Ytiockkphciadeaa
open Go.RowKit

theorem str_same2 {l m : List UInt8} {s t : ByteArray} (hs : s = ⟨l.toArray⟩) (ht : t = ⟨m.toArray⟩) : (s.toList == t.toList) = decide (l = m) := by
  subst hs; subst ht
  rw [Lib.toList_data, Lib.toList_data]
  by_cases h : l = m
  · subst h; simp
  · rw [decide_eq_false h]
    exact beq_false_of_ne fun hh => h (by simpa using hh)
theorem conv_str (w : World) {A : Option Addr} {n c : Nat} {l : List UInt8} (h : IsB w A n c l) {s : ByteArray} (hs : s = ⟨l.toArray⟩) : (convert 26 9 (.slice A n c)).run Try.prog w = .ok (.string s) w := by
  subst hs
  exact run_str w 26 9 5 Try.underlying26 Try.underlying5 Try.underlying9 A n c l h

set_option maxRecDepth 100000 in
theorem samebytes_any {w : World} {A : Option Addr} {n c : Nat} {l : List UInt8} {B : Option Addr} {m d : Nat} {k : List UInt8} (h1 : IsB w A n c l) (h2 : IsB w B m d k) :
    Calls Try.prog 27 #[.slice A n c, .slice B m d] w fun e w' => e = .returned (.bool (decide (l = k))) ∧ w = w' := by
  obtain ⟨s, hs⟩ : ∃ s : ByteArray, s = ⟨l.toArray⟩ := ⟨_, rfl⟩
  obtain ⟨t, ht⟩ : ∃ s : ByteArray, s = ⟨k.toArray⟩ := ⟨_, rfl⟩
  have hE := str_same2 hs ht
  have f1 := conv_str w h1 hs
  have f2 := conv_str w h2 ht
  rw [← hE]
  clear hE hs ht
  go_enter Try.func27, Try.ntmps27
  go_wp2_with fail
  go_ret
  exact ⟨rfl, rfl⟩

end Go.Proofs.Ytiockkphciadeaa
