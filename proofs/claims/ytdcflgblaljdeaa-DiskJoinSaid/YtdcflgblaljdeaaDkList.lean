/-
  List as the document has it: the names, rising.
-/
import Derived.Test.YtdcflgblaljdeaaDkRead
import Derived.Test.YtdcflgblaljdeaaIter
import Derived.OwnWalkIn
import Derived.TacticsInMore
set_option linter.unusedVariables false
set_option linter.unusedSimpArgs false
namespace Go.Proofs.Ytdcflgblaljdeaa
open Go.RowKit Go.Maps Go.Sort

theorem before_lt : ∀ a b : List UInt8, bytesBefore a b = true ↔ a < b
  | [], [] => by simp [bytesBefore]
  | [], _ :: _ => by simp [bytesBefore]
  | _ :: _, [] => by simp [bytesBefore]
  | x :: r, y :: t => by
    rw [List.cons_lt_cons_iff, ← before_lt r t]
    simp [bytesBefore]
theorem sorted_names {l : List (List UInt8)} {ss : List (List UInt8)} (h : l.Pairwise fun a b => bytesBefore a b = true) (hp : ss.Perm l) : ss.mergeSort (fun x y => decide (x ≤ y)) = l := by
  have htr : ∀ a b c : List UInt8, decide (a ≤ b) = true → decide (b ≤ c) = true → decide (a ≤ c) = true := fun a b c h1 h2 => by
    simp only [decide_eq_true_eq] at *
    exact List.le_trans h1 h2
  have hto : ∀ a b : List UInt8, (decide (a ≤ b) || decide (b ≤ a)) = true := fun a b => by
    simp only [Bool.or_eq_true, decide_eq_true_eq]
    exact List.le_total a b
  have h1 := List.pairwise_mergeSort htr hto ss
  have h2 : l.Pairwise fun a b => decide (a ≤ b) = true := h.imp fun {a b} hb => by
    simp only [decide_eq_true_eq]
    exact List.le_of_lt ((before_lt a b).1 hb)
  refine List.Perm.eq_of_pairwise (le := fun a b => decide (a ≤ b) = true) ?_ h1 h2 ((List.mergeSort_perm ss _).trans hp)
  intro a b _ _ h3 h4
  simp only [decide_eq_true_eq] at h3 h4
  exact List.le_antisymm h3 h4

/-- a slice of strings of the call's own -/
def Names (w : World) (base : Nat) (v : Value) (l : List Nm) : Prop := w.ownsRow base 9 1 v l.length (l.map Go.Proofs.encStr)

set_option maxRecDepth 100000 in
set_option maxHeartbeats 1000000 in
theorem list_any {w : World} {F : Nat → Prop} {a : Nat} {s : St} (h : Dk w F a s) : Calls Try.prog 27 #[.pointer (some ⟨a, 0, none⟩)] w fun e w' =>
    ∃ v, e = .returned v ∧ Names w' w.heap.size v (s.fs.map (·.1)) ∧ Below w.heap.size w w' := by
  have hwf := h.1
  obtain ⟨_, hFl, mb, ms, lv, hp, hlv, hfs, hfoot⟩ := h
  have c2 : w.cell? ⟨a, 2, none⟩ = some (.map (some mb)) := hp.cell 2
  have hcount := hwf.count
  have hsz : Maps.size (dmap (amap Raw.val ms)) ≤ 200 := by rw [dmap_size]; rw [hfs] at hcount; simpa [amap] using hcount
  have hkeys : Go.strKeys (dmap (amap Raw.val ms)) = s.fs.map (·.1) := by rw [dmap_keys, amap_keys, hfs, amap_keys]
  have hrise : (s.fs.map (·.1)).Pairwise fun a b => bytesBefore a b = true := by
    have := hwf.rise
    unfold Rising at this
    rwa [List.pairwise_map]
  have HK := Lib.hid hkeys
  have hmade := (callsIn_wide (n := 5)).2 (made_any hp)
  clear hkeys hlv hfs hwf hcount
  refine (callsIn_wide (n := 6)).1 ?_
  have hfM : Fence.wide.fn 62 := trivial
  have hfK : Fence.wide.fn 74 := trivial
  have hfS : Fence.wide.fn 73 := trivial
  refine callsIn_of_wp Try.func27 rfl trivial ?_ rfl
  simp only [Try.ntmps27, List.size_toArray, List.length_cons, List.length_nil, Nat.reduceAdd, Nat.reduceSub, Array.replicate_succ, Array.replicate_zero, List.push_toArray, List.append_toArray, List.nil_append, List.cons_append]
  gi_wp2_with (first
    | (gi_at_call 62; refine hmade.mono ?_; rintro e w' ⟨rfl, rfl⟩)
    | (gi_at_call 74; refine (maps_Keys _ _).mono ?_; rintro e w' ⟨rfl, rfl⟩)
    | (gi_at_call 73; refine (slices_Sorted_keys mb _ _ asIs w hp.files.own (by unfold maxLen; omega) (by omega)).mono ?_; rintro e w' ⟨v, ss, rfl, hS, hrow, hnil, hb⟩))
  go_ret
  rw [HK.out] at hS
  have hss := sorted_names hrise hS
  rw [hss] at hrow
  have hlen := hS.length_eq
  rw [hlen] at hrow
  exact ⟨v, rfl, ownsRow_base_a hrow (by simp), ((Below.refl _ w).alloc (Nat.le_refl _) _).trans (hb.mono (by simp))⟩
end Go.Proofs.Ytdcflgblaljdeaa
