/-
  What arguments with depth hold, as the row's reading gives it: slices of whatever elements, read as lists.
-/
import Derived.Test.YtiockkphciadeaaRowB
import Derived.Deep.Slices
import Derived.ChangeArms
set_option linter.unusedVariables false
namespace Go.Proofs.Ytiockkphciadeaa
open Go.RowKit Go.Deep Go.ChangeShapes Go.WideShapes

/-- a slice whose elements, of k cells each, read as these by Rel -/
structure IsL {α : Type} (k : Nat) (Rel : List Value → α → Prop) (w : World) (A : Option Addr) (n c : Nat) (xs : List α) : Prop where
  len : xs.length = n
  cap : n ≤ c
  max : c ≤ maxLen
  none_ : A = none → c = 0
  src : xs = [] ∨ ∃ b o, A = some ⟨b, o, none⟩ ∧ ∀ j x, xs[j]? = some x → ∃ cs : List Value, cs.length = k ∧ (∀ i u, cs[i]? = some u → w.cell? ⟨b, o + j * k + i, none⟩ = some u) ∧ Rel cs x

theorem list_of {α : Type} {P : Nat → α → Prop} : ∀ n : Nat, (∀ i, i < n → ∃ x, P i x) → ∃ xs : List α, xs.length = n ∧ ∀ i x, xs[i]? = some x → P i x
  | 0, _ => ⟨[], rfl, fun i x h => by simp at h⟩
  | n + 1, h => by
    obtain ⟨xs, hl, hx⟩ := list_of n fun i hi => h i (by omega)
    obtain ⟨y, hy⟩ := h n (by omega)
    refine ⟨xs ++ [y], by simp [hl], fun i x hi => ?_⟩
    rcases Nat.lt_or_ge i n with hin | hin
    · rw [List.getElem?_append_left (by omega)] at hi
      exact hx i x hi
    · rw [List.getElem?_append_right (by omega)] at hi
      have : i - xs.length = 0 := by
        rcases Nat.eq_zero_or_pos (i - xs.length) with h0 | h0
        · exact h0
        · rw [List.getElem?_eq_none (by simp; omega)] at hi; cases hi
      rw [this] at hi
      simp at hi
      subst hi
      have : i = n := by omega
      subst this
      exact hy

section
variable {H : Type} {enc : TypeId × Value → H} {P : Program} {w : World} {base : Nat} {held : Bool}
theorem open_list {α : Type} (k : Nat) (Rel : List Value → α → Prop) {t e : TypeId} {fuel : Nat} {v : Value} {x : DataW H × List MemPlace} (ht : P.underlying t = some (.slice e)) (hk : P.cellsOf e = k) (hk0 : 0 < k)
    (hel : ∀ (cs : List Value) (n : Nat) (y : DataW H × List MemPlace), cs.length = k → DataW.trod enc P w base (fun _ => true) held n e cs = some y → ∃ a, Rel cs a)
    (h : DataW.trod enc P w base (fun _ => true) held fuel t [v] = some x) :
    ∃ A n c xs, v = .slice A n c ∧ IsL k Rel w A n c xs := by
  subst hk
  rcases open_slice ht h with ⟨hcs, _⟩ | ⟨a, len, cap, m, n, D, Pl, hcs, hb, hl, hm, hmm, hx, hi⟩
  · simp at hcs
    exact ⟨none, 0, 0, [], hcs, rfl, Nat.le_refl _, Nat.zero_le _, fun _ => rfl, .inl rfl⟩
  · simp at hcs
    simp at hmm
    subst hmm
    have hall : ∀ i, i < len → ∃ a', (∃ cs : List Value, cs.length = P.cellsOf e ∧ (∀ j u, cs[j]? = some u → w.cell? ((a.add (i * P.cellsOf e)).add j) = some u) ∧ Rel cs a') := fun i hil => by
      obtain ⟨cs', hc, ht'⟩ := hi i (by omega)
      obtain ⟨_, hcl, hat⟩ := World.cells?_some hc
      obtain ⟨a', ha'⟩ := hel cs' n _ hcl ht'
      refine ⟨a', cs', hcl, fun j u hu => ?_, ha'⟩
      have hj : j < cs'.length := (List.getElem?_eq_some_iff.1 hu).1
      rw [hat j (by omega), hu]
    obtain ⟨xs, hxl, hxs⟩ := list_of len hall
    refine ⟨some a, len, m, xs, hcs, hxl, hl, hm, (fun e => by cases e), ?_⟩
    rcases Nat.eq_zero_or_pos len with h0 | h0
    · subst h0; exact .inl (List.eq_nil_of_length_eq_zero hxl)
    · have hsp : a.spot = none := by
        obtain ⟨cs', hcl, hat, _⟩ := hxs 0 xs[0] (List.getElem?_eq_getElem (by omega))
        have := hat 0 cs'[0] (List.getElem?_eq_getElem (by omega))
        simpa [Addr.add] using World.cell?_spot this
      obtain ⟨b, o, spot⟩ := a
      simp at hsp
      subst hsp
      refine .inr ⟨b, o, rfl, fun j x hj => ?_⟩
      obtain ⟨cs, hcl, hat, hr⟩ := hxs j x hj
      refine ⟨cs, hcl, fun i u hu => ?_, hr⟩
      have := hat i u hu
      rwa [Addr.add_lit, Addr.add_lit] at this

theorem open_bytes {t e : TypeId} {fuel : Nat} {v : Value} {x : DataW H × List MemPlace} (ht : P.underlying t = some (.slice e)) (he : P.underlying e = some (.int .u8)) (hc : P.cellsOf e = 1)
    (h : DataW.trod enc P w base (fun _ => true) held fuel t [v] = some x) : ∃ A n c l, v = .slice A n c ∧ IsB w A n c l ∧ c ≤ maxLen := by
  rcases open_ints ht he hc h with ⟨hcs, _⟩ | ⟨a, len, cap, zs, hcs, _, hl, hm, hz, _, hcell, hwz⟩
  · simp at hcs
    exact ⟨none, 0, 0, [], hcs, IsB.nil w, Nat.zero_le _⟩
  · simp at hcs
    obtain ⟨l, hB⟩ := isB_of_row hl (by simpa using hz) hcell hwz
    exact ⟨some a, len, cap, l, hcs, hB, hm⟩
end

theorem IsL.below {α : Type} {k : Nat} {Rel Rel' : List Value → α → Prop} {w w' : World} {A : Option Addr} {n c : Nat} {xs : List α} (h : IsL k Rel w A n c xs) (hb : Below w.heap.size w w') (hr : ∀ cs x, Rel cs x → Rel' cs x) : IsL k Rel' w' A n c xs := by
  refine ⟨h.len, h.cap, h.max, h.none_, ?_⟩
  rcases h.src with h0 | ⟨b, o, hA, hc⟩
  · exact .inl h0
  · refine .inr ⟨b, o, hA, fun j x hj => ?_⟩
    obtain ⟨cs, hl, hat, hx⟩ := hc j x hj
    exact ⟨cs, hl, fun i u hu => cell_below hb _ _ (hat i u hu), hr _ _ hx⟩
/-- the one element's cells -/
theorem IsL.at_ {α : Type} {k : Nat} {Rel : List Value → α → Prop} {w : World} {A : Option Addr} {n c : Nat} {xs : List α} (h : IsL k Rel w A n c xs) {j : Nat} (hj : j < n) :
    ∃ b o x cs, A = some ⟨b, o, none⟩ ∧ xs[j]? = some x ∧ cs.length = k ∧ (∀ i u, cs[i]? = some u → w.cell? ⟨b, o + j * k + i, none⟩ = some u) ∧ Rel cs x := by
  have hl := h.len
  have hx : xs[j]? = some (xs[j]'(by omega)) := List.getElem?_eq_getElem (by omega)
  rcases h.src with h0 | ⟨b, o, hA, hc⟩
  · rw [h0] at hl; simp at hl; omega
  · obtain ⟨cs, h1, h2, h3⟩ := hc j _ hx
    exact ⟨b, o, _, cs, hA, hx, h1, h2, h3⟩
end Go.Proofs.Ytiockkphciadeaa
