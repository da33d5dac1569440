/-
  Crash as the document has it.
-/
import Derived.Test.YtdcflgblaljdeaaDkList
set_option linter.unusedVariables false
set_option linter.unusedSimpArgs false
namespace Go.Proofs.Ytdcflgblaljdeaa
open Go.RowKit Go.Maps

/-- a slice of ints holds these numbers -/
structure IsI (w : World) (A : Option Addr) (n c : Nat) (zs : List Int) : Prop where
  len : zs.length = n
  cap : n ≤ c
  rng : ∀ z ∈ zs, -9223372036854775808 ≤ z ∧ z ≤ 9223372036854775807
  src : zs = [] ∨ ∃ b o, A = some ⟨b, o, none⟩ ∧ ∀ j z, zs[j]? = some z → w.cell? ⟨b, o + j, none⟩ = some (.int .i64 z)
theorem IsI.away {F : Nat → Prop} {w w' : World} {A : Option Addr} {n c : Nat} {zs : List Int} (h : IsI w A n c zs) (ha : Away F w w') (hf : ∀ ad, A = some ad → ¬ F ad.block) : IsI w' A n c zs := by
  refine ⟨h.len, h.cap, h.rng, ?_⟩
  rcases h.src with h0 | ⟨b, o, hA, hc⟩
  · exact .inl h0
  · exact .inr ⟨b, o, hA, fun j z hj => away_cell ha (show ¬ F b from hf ⟨b, o, none⟩ hA) (hc j z hj)⟩

theorem aput_set {α : Type} {l : List (Nm × α)} (hl : Rising l) {i : Nat} {k : Nm} {x : α} (hi : l[i]? = some (k, x)) (c : α) : aput k c l = l.set i (k, c) := by
  have hil := (List.getElem?_eq_some_iff.1 hi).1
  have hei := (List.getElem?_eq_some_iff.1 hi).2
  have hk : (l.set i (k, c)).map (·.1) = l.map (·.1) := by
    apply List.ext_getElem
    · simp
    · intro j h1 h2
      simp only [List.getElem_map, List.getElem_set]
      split
      · rename_i e
        subst e
        rw [hei]
      · rfl
  have hr : Rising (l.set i (k, c)) := (rising_keys hk).2 hl
  have hne := rising_ne hl
  refine aget_ext (rising_aput hl k c) hr fun k' => opt_ext fun b => ?_
  rw [aget_some (rising_aput hl k c), aget_some hr, mem_aput]
  constructor
  · rintro (e | ⟨hm, hn⟩)
    · rw [e]
      exact List.mem_iff_getElem.2 ⟨i, by simpa using hil, by simp⟩
    · obtain ⟨j, hj, ej⟩ := List.mem_iff_getElem.1 hm
      have hij : i ≠ j := by
        rintro rfl
        rw [hei] at ej
        exact hn (congrArg Prod.fst ej).symm
      exact List.mem_iff_getElem.2 ⟨j, by simpa using hj, by rw [List.getElem_set_ne hij]; exact ej⟩
  · intro hm
    obtain ⟨j, hj0, ej⟩ := List.mem_iff_getElem.1 hm
    have hj : j < l.length := by rwa [List.length_set] at hj0
    rw [List.getElem_set] at ej
    split at ej
    · exact .inl ej.symm
    · rename_i hij
      refine .inr ⟨by rw [← ej]; exact List.getElem_mem _, ?_⟩
      rintro rfl
      rcases Nat.lt_or_gt_of_ne hij with h1 | h1
      · have := List.pairwise_iff_getElem.1 hne i j hil hj h1
        rw [hei, ej] at this
        exact this rfl
      · have := List.pairwise_iff_getElem.1 hne j i hj hil h1
        rw [hei, ej] at this
        exact this rfl

/-- the files, the first i of them as the crash leaves them -/
def mixed (ks : List Int) (fs : List (Nm × Fc)) (i : Nat) : List (Nm × Fc) := fs.mapIdx fun j p => if j < i then (p.1, (p.2.1.take (kept p.2 ks j), kept p.2 ks j)) else p
theorem mixed_zero (ks : List Int) (fs : List (Nm × Fc)) : mixed ks fs 0 = fs := by
  unfold mixed
  apply List.ext_getElem
  · simp
  · intro j h1 h2; simp
theorem mixed_all (ks : List Int) (fs : List (Nm × Fc)) : mixed ks fs fs.length = crashed ks fs := by
  unfold mixed crashed
  apply List.ext_getElem
  · simp
  · intro j h1 h2
    simp at h1
    simp [h1]
theorem mixed_keys (ks : List Int) (fs : List (Nm × Fc)) (i : Nat) : (mixed ks fs i).map (·.1) = fs.map (·.1) := by
  unfold mixed
  apply List.ext_getElem
  · simp
  · intro j h1 h2
    simp only [List.getElem_map, List.getElem_mapIdx]
    split <;> rfl
theorem mixed_at {ks : List Int} {fs : List (Nm × Fc)} {i : Nat} {p : Nm × Fc} (h : fs[i]? = some p) : (mixed ks fs i)[i]? = some p := by
  unfold mixed
  rw [List.getElem?_mapIdx, h]
  simp
theorem mixed_succ {ks : List Int} {fs : List (Nm × Fc)} {i : Nat} {p : Nm × Fc} (h : fs[i]? = some p) :
    (mixed ks fs i).set i (p.1, (p.2.1.take (kept p.2 ks i), kept p.2 ks i)) = mixed ks fs (i + 1) := by
  obtain ⟨hi, e⟩ := List.getElem?_eq_some_iff.1 h
  unfold mixed
  apply List.ext_getElem
  · simp
  · intro j h1 h2
    simp at h1 h2
    rw [List.getElem_set, List.getElem_mapIdx, List.getElem_mapIdx]
    split
    · rename_i hij
      subst hij
      rw [if_pos (by omega), e]
    · rename_i hij
      by_cases hj : j < i
      · rw [if_pos hj, if_pos (by omega)]
      · rw [if_neg hj, if_neg (by omega)]
theorem mixed_used (ks : List Int) {s : St} (hs : s.wf) (i : Nat) : asum (fun c : Fc => c.1.length) (mixed ks s.fs i) ≤ s.used := by
  refine asum_mono (by simp [mixed]) fun j x y hx hy => ?_
  unfold mixed at hx
  rw [List.getElem?_mapIdx, hy] at hx
  simp only [Option.map_some, Option.some.injEq] at hx
  subst hx
  split
  · simp; omega
  · exact Nat.le_refl _

/-- the strings of a row -/
theorem Names.at_ {w : World} {base : Nat} {v : Value} {l : List Nm} (h : Names w base v l) : ∃ A c, v = .slice A l.length c ∧ (l = [] ∨ ∃ g, A = some ⟨g, 0, none⟩ ∧ base ≤ g ∧ g < w.heap.size ∧ ∀ j x, l[j]? = some x → w.cell? ⟨g, j, none⟩ = some (.string ⟨x.toArray⟩)) := by
  unfold Names at h
  rcases h.2 with ⟨rfl, hn⟩ | ⟨g, cap, cur, rfl, hbg, hg, hnc, hcm, hcs, htake⟩
  · have : l = [] := List.eq_nil_of_length_eq_zero hn
    subst this
    exact ⟨none, 0, rfl, .inl rfl⟩
  · refine ⟨some ⟨g, 0, none⟩, cap, rfl, .inr ⟨g, rfl, hbg, (Array.getElem?_eq_some_iff.1 hg).1, fun j x hj => ?_⟩⟩
    have hx := World.ownsRow.cells (g := g) h rfl j (Go.Proofs.encStr x) (by rw [List.getElem?_map, hj]; rfl)
    simpa [Addr.add_lit, Go.Proofs.encStr] using hx
theorem Names.away {F : Nat → Prop} {w w' : World} {base : Nat} {v : Value} {l : List Nm} (h : Names w base v l) (ha : Away F w w') (hf : ∀ b, base ≤ b → b < w.heap.size → ¬ F b) : Names w' base v l := by
  refine ⟨h.1, ?_⟩
  rcases h.2 with hn | ⟨g, cap, cur, hv, hbg, hg, hr⟩
  · exact .inl hn
  · have hlt := (Array.getElem?_eq_some_iff.1 hg).1
    exact .inr ⟨g, cap, cur, hv, hbg, (ha.block g hlt (hf g hbg hlt)).trans hg, hr⟩
end Go.Proofs.Ytdcflgblaljdeaa
