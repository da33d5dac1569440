/-
  Files by their names, as a list with rising names: what stands at a name, what is put there, what is taken away; and the map of the model that reads as such a list.
-/
import Derived.Maps.OwnSet
import Derived.Sort.KeysCollected
set_option linter.unusedVariables false
namespace Go.Proofs.Ytdcflgblaljdeaa

abbrev Nm := List UInt8
section
variable {α β : Type}

def Rising (l : List (Nm × α)) : Prop := l.Pairwise fun p q => bytesBefore p.1 q.1 = true
def aget (k : Nm) (l : List (Nm × α)) : Option α := (l.find? fun p => p.1 == k).map (·.2)
def adel (k : Nm) (l : List (Nm × α)) : List (Nm × α) := l.filter fun p => !p.1 == k
def ains (x : Nm × α) : List (Nm × α) → List (Nm × α)
  | [] => [x]
  | y :: r => if bytesBefore x.1 y.1 then x :: y :: r else y :: ains x r
def aput (k : Nm) (a : α) (l : List (Nm × α)) : List (Nm × α) := ains (k, a) (adel k l)

theorem mem_ains {x : Nm × α} {p : Nm × α} : ∀ {l : List (Nm × α)}, p ∈ ains x l ↔ p = x ∨ p ∈ l
  | [] => by simp [ains]
  | y :: r => by
    unfold ains
    split
    · simp
    · simp only [List.mem_cons, mem_ains (l := r)]
      constructor
      · rintro (h | h | h)
        · exact .inr (.inl h)
        · exact .inl h
        · exact .inr (.inr h)
      · rintro (h | h | h)
        · exact .inr (.inl h)
        · exact .inl h
        · exact .inr (.inr h)
theorem ains_perm (x : Nm × α) : ∀ l : List (Nm × α), (ains x l).Perm (x :: l)
  | [] => List.Perm.refl _
  | y :: r => by
    unfold ains
    split
    · exact List.Perm.refl _
    · exact ((ains_perm x r).cons y).trans (List.Perm.swap x y r)
theorem mem_adel {k : Nm} {p : Nm × α} {l : List (Nm × α)} : p ∈ adel k l ↔ p ∈ l ∧ p.1 ≠ k := by
  unfold adel
  simp [List.mem_filter]
theorem mem_aput {k : Nm} {a : α} {p : Nm × α} {l : List (Nm × α)} : p ∈ aput k a l ↔ p = (k, a) ∨ (p ∈ l ∧ p.1 ≠ k) := by
  unfold aput
  rw [mem_ains, mem_adel]

theorem rising_adel {l : List (Nm × α)} (h : Rising l) (k : Nm) : Rising (adel k l) := List.Pairwise.filter _ h
theorem rising_ains {x : Nm × α} : ∀ {l : List (Nm × α)}, Rising l → (∀ p ∈ l, p.1 ≠ x.1) → Rising (ains x l)
  | [], _, _ => by simp [ains, Rising]
  | y :: r, h, hne => by
    obtain ⟨h1, h2⟩ := List.pairwise_cons.1 h
    unfold ains
    split
    · rename_i hb
      refine List.pairwise_cons.2 ⟨fun q hq => ?_, h⟩
      rcases List.mem_cons.1 hq with rfl | hq
      · exact hb
      · exact WideShapes.bytes_trans _ _ _ hb (h1 q hq)
    · rename_i hb
      have hyx : bytesBefore y.1 x.1 = true := by
        rcases WideAt.bytes_total y.1 x.1 (hne y (by simp)) with h' | h'
        · exact h'
        · exact absurd h' hb
      refine List.pairwise_cons.2 ⟨fun q hq => ?_, rising_ains h2 fun p hp => hne p (by simp [hp])⟩
      rcases mem_ains.1 hq with rfl | hq
      · exact hyx
      · exact h1 q hq
theorem rising_aput {l : List (Nm × α)} (h : Rising l) (k : Nm) (a : α) : Rising (aput k a l) :=
  rising_ains (rising_adel h k) fun p hp => (mem_adel.1 hp).2
theorem rising_ne {l : List (Nm × α)} (h : Rising l) : l.Pairwise fun p q => p.1 ≠ q.1 :=
  h.imp fun hb e => by rw [e, WideAt.bytes_irrefl] at hb; cases hb

theorem aget_some {k : Nm} {a : α} : ∀ {l : List (Nm × α)}, Rising l → (aget k l = some a ↔ (k, a) ∈ l)
  | [], _ => by simp [aget]
  | y :: r, h => by
    obtain ⟨h1, h2⟩ := List.pairwise_cons.1 h
    unfold aget
    by_cases e : y.1 = k
    · rw [List.find?_cons_of_pos (by simpa using e)]
      simp only [Option.map_some, Option.some.injEq, List.mem_cons]
      constructor
      · rintro rfl; exact .inl (by rw [← e])
      · rintro (rfl | hm)
        · rfl
        · have := h1 _ hm
          rw [e, WideAt.bytes_irrefl] at this; cases this
    · rw [List.find?_cons_of_neg (by simpa using e)]
      have ih := aget_some (k := k) (a := a) h2
      unfold aget at ih
      rw [ih, List.mem_cons]
      constructor
      · exact .inr
      · rintro (rfl | hm)
        · exact absurd rfl e
        · exact hm
theorem aget_none {k : Nm} {l : List (Nm × α)} : aget k l = none ↔ ∀ p ∈ l, p.1 ≠ k := by
  unfold aget
  rw [Option.map_eq_none_iff, List.find?_eq_none]
  simp
theorem aget_mem {k : Nm} {a : α} {l : List (Nm × α)} (h : aget k l = some a) : (k, a) ∈ l := by
  unfold aget at h
  obtain ⟨p, hp, rfl⟩ := Option.map_eq_some_iff.1 h
  have h1 := List.find?_some hp
  have h2 := List.mem_of_find?_eq_some hp
  simp at h1
  subst h1
  exact h2

theorem aget_ext {l m : List (Nm × α)} (hl : Rising l) (hm : Rising m) (h : ∀ k, aget k l = aget k m) : l = m := by
  have hmem : ∀ p : Nm × α, p ∈ l ↔ p ∈ m := fun p => by
    have := aget_some (k := p.1) (a := p.2) hl
    rw [h, aget_some hm] at this
    exact this.symm
  have hnl : l.Nodup := (rising_ne hl).imp fun hne e => hne (by rw [e])
  have hnm : m.Nodup := (rising_ne hm).imp fun hne e => hne (by rw [e])
  refine List.Perm.eq_of_pairwise (le := fun p q : Nm × α => bytesBefore p.1 q.1 = true) ?_ hl hm ((List.perm_ext_iff_of_nodup hnl hnm).2 hmem)
  intro p q _ _ h1 h2
  have := WideShapes.bytes_trans _ _ _ h1 h2
  rw [WideAt.bytes_irrefl] at this; cases this

theorem aget_aput_same {l : List (Nm × α)} (h : Rising l) (k : Nm) (a : α) : aget k (aput k a l) = some a :=
  (aget_some (rising_aput h k a)).2 (mem_aput.2 (.inl rfl))
theorem opt_ext {x y : Option α} (h : ∀ a, x = some a ↔ y = some a) : x = y := by
  cases x with
  | some a => exact ((h a).1 rfl).symm
  | none =>
    cases y with
    | none => rfl
    | some b => exact (h b).2 rfl
theorem aget_aput_other {l : List (Nm × α)} (h : Rising l) {k k' : Nm} (hne : k' ≠ k) (a : α) : aget k' (aput k a l) = aget k' l :=
  opt_ext fun b => by
    rw [aget_some (rising_aput h k a), aget_some h, mem_aput]
    constructor
    · rintro (e | ⟨hm, _⟩)
      · exact absurd (congrArg Prod.fst e) hne
      · exact hm
    · intro hm; exact .inr ⟨hm, hne⟩
theorem aget_adel_same (l : List (Nm × α)) (k : Nm) : aget k (adel k l) = none :=
  aget_none.2 fun _ hp => (mem_adel.1 hp).2
theorem aget_adel_other {l : List (Nm × α)} (h : Rising l) {k k' : Nm} (hne : k' ≠ k) : aget k' (adel k l) = aget k' l :=
  opt_ext fun b => by
    rw [aget_some (rising_adel h k), aget_some h, mem_adel]
    exact ⟨fun h => h.1, fun h => ⟨h, hne⟩⟩
theorem aput_same {l : List (Nm × α)} (h : Rising l) {k : Nm} {a : α} (hk : aget k l = some a) : aput k a l = l :=
  aget_ext (rising_aput h k a) h fun k' => by
    by_cases e : k' = k
    · subst e; rw [aget_aput_same h, hk]
    · rw [aget_aput_other h e]
theorem aput_aput {l : List (Nm × α)} (h : Rising l) (k : Nm) (a b : α) : aput k b (aput k a l) = aput k b l :=
  aget_ext (rising_aput (rising_aput h k a) k b) (rising_aput h k b) fun k' => by
    by_cases e : k' = k
    · subst e; rw [aget_aput_same (rising_aput h _ _), aget_aput_same h]
    · rw [aget_aput_other (rising_aput h _ _) e, aget_aput_other h e, aget_aput_other h e]
theorem aput_adel {l : List (Nm × α)} (h : Rising l) (k : Nm) (b : α) : aput k b (adel k l) = aput k b l :=
  aget_ext (rising_aput (rising_adel h k) k b) (rising_aput h k b) fun k' => by
    by_cases e : k' = k
    · subst e; rw [aget_aput_same (rising_adel h _), aget_aput_same h]
    · rw [aget_aput_other (rising_adel h _) e, aget_aput_other h e, aget_adel_other h e]
theorem adel_none {l : List (Nm × α)} {k : Nm} (hk : aget k l = none) : adel k l = l :=
  List.filter_eq_self.2 fun p hp => by simpa using aget_none.1 hk p hp

/-- sums over the files -/
def asum (g : α → Nat) (l : List (Nm × α)) : Nat := (l.map fun p => g p.2).sum
theorem asum_perm {g : α → Nat} {l m : List (Nm × α)} (h : l.Perm m) : asum g l = asum g m := (h.map _).sum_nat
theorem asum_adel {g : α → Nat} {l : List (Nm × α)} (h : Rising l) (k : Nm) : asum g l = asum g (adel k l) + ((aget k l).map g).getD 0 := by
  induction l with
  | nil => simp [asum, adel, aget]
  | cons y r ih =>
    obtain ⟨h1, h2⟩ := List.pairwise_cons.1 h
    have ih := ih h2
    by_cases e : y.1 = k
    · have hd : adel k (y :: r) = adel k r := by unfold adel; rw [List.filter_cons_of_neg (by simpa using e)]
      have hr : aget k r = none := aget_none.2 fun p hp e' => by
        have := h1 p hp
        rw [e, e', WideAt.bytes_irrefl] at this; cases this
      have hg : aget k (y :: r) = some y.2 := by unfold aget; rw [List.find?_cons_of_pos (by simpa using e)]; rfl
      rw [hd, hg]
      rw [hr] at ih
      simp only [asum, List.map_cons, List.sum_cons, Option.map_some, Option.getD_some, Option.map_none, Option.getD_none] at ih ⊢
      omega
    · have hd : adel k (y :: r) = y :: adel k r := by unfold adel; rw [List.filter_cons_of_pos (by simpa using e)]
      have hg : aget k (y :: r) = aget k r := by unfold aget; rw [List.find?_cons_of_neg (by simpa using e)]
      rw [hd, hg]
      simp only [asum, List.map_cons, List.sum_cons] at ih ⊢
      omega
theorem asum_aput {g : α → Nat} {l : List (Nm × α)} (h : Rising l) (k : Nm) (a : α) : asum g (aput k a l) + ((aget k l).map g).getD 0 = asum g l + g a := by
  have h1 : asum g (aput k a l) = g a + asum g (adel k l) := by
    unfold aput
    rw [asum_perm (ains_perm _ _)]
    simp [asum]
  have h2 := asum_adel (g := g) h k
  omega
theorem alen_eq (l : List (Nm × α)) : asum (fun _ => 1) l = l.length := by
  unfold asum
  induction l with
  | nil => rfl
  | cons y r ih => rw [List.map_cons, List.sum_cons, List.length_cons, ih, Nat.add_comm]
theorem alen_adel {l : List (Nm × α)} (h : Rising l) (k : Nm) : l.length = (adel k l).length + (if (aget k l).isSome then 1 else 0) := by
  have := asum_adel (g := fun _ => 1) h k
  rw [alen_eq, alen_eq] at this
  cases hk : aget k l <;> simp [hk] at this ⊢ <;> omega
theorem alen_aput {l : List (Nm × α)} (h : Rising l) (k : Nm) (a : α) : (aput k a l).length + (if (aget k l).isSome then 1 else 0) = l.length + 1 := by
  have := asum_aput (g := fun _ => 1) h k a
  rw [alen_eq, alen_eq] at this
  cases hk : aget k l <;> simp [hk] at this ⊢ <;> omega

/-- what stands at the names, turned -/
def amap (g : α → β) (l : List (Nm × α)) : List (Nm × β) := l.map fun p => (p.1, g p.2)
theorem amap_keys (g : α → β) (l : List (Nm × α)) : (amap g l).map (·.1) = l.map (·.1) := by simp [amap]
theorem rising_amap {g : α → β} {l : List (Nm × α)} : Rising (amap g l) ↔ Rising l := by
  unfold Rising amap
  rw [List.pairwise_map]
theorem aget_amap (g : α → β) (k : Nm) (l : List (Nm × α)) : aget k (amap g l) = (aget k l).map g := by
  unfold aget amap
  induction l with
  | nil => rfl
  | cons y r ih =>
    rw [List.map_cons]
    by_cases e : y.1 = k
    · rw [List.find?_cons_of_pos (by simpa using e), List.find?_cons_of_pos (by simpa using e)]; rfl
    · rw [List.find?_cons_of_neg (by simpa using e), List.find?_cons_of_neg (by simpa using e)]; exact ih
theorem amap_adel (g : α → β) (k : Nm) (l : List (Nm × α)) : amap g (adel k l) = adel k (amap g l) := by
  unfold amap adel
  rw [List.filter_map]
  rfl
theorem amap_ains (g : α → β) (x : Nm × α) : ∀ l : List (Nm × α), amap g (ains x l) = ains (x.1, g x.2) (amap g l)
  | [] => rfl
  | y :: r => by
    have ih := amap_ains g x r
    unfold amap at ih ⊢
    simp only [List.map_cons, ains]
    split
    · simp
    · simp only [List.map_cons]; rw [ih]
theorem amap_aput (g : α → β) (k : Nm) (a : α) (l : List (Nm × α)) : amap g (aput k a l) = aput k (g a) (amap g l) := by
  unfold aput
  rw [amap_ains, amap_adel]
theorem asum_amap (g : α → β) (f : β → Nat) (l : List (Nm × α)) : asum f (amap g l) = asum (fun a => f (g a)) l := by
  unfold asum amap
  rw [List.map_map]; rfl
end

/-! ### the model's map -/
def dent (p : Nm × Value) : Lit × DataW Value := (.string p.1, .held p.2)
/-- the datum that such a map reads as: its values as they are -/
def dmap (l : List (Nm × Value)) : DataW Value := .map (l.map dent)
def asIs (v : Value) : Option (DataW Value × List MemPlace) := some (.held v, [])
theorem same_str (a b : Nm) : (Lit.string a).sameKey (.string b) = (a == b) := rfl
theorem dins (x : Nm × Value) : ∀ l : List (Nm × Value), DataW.insert (dent x) (l.map dent) = (ains x l).map dent
  | [] => rfl
  | y :: r => by
    have ih := dins x r
    simp only [List.map_cons, DataW.insert, ains]
    have e : (dent x).1.before (dent y).1 = bytesBefore x.1 y.1 := rfl
    rw [e, ih]
    split <;> simp
theorem ddel (k : Nm) (l : List (Nm × Value)) : (l.map dent).filter (ChangeMaps.notKey (.string k)) = (adel k l).map dent := by
  unfold adel
  rw [List.filter_map]
  rfl
theorem dmap_put (l : List (Nm × Value)) (k : Nm) (v : Value) : (dmap l).put (.string k) (.held v) = dmap (aput k v l) := by
  unfold dmap
  rw [DataW.put_eq]
  unfold ChangeMaps.putKey
  rw [ddel]
  exact congrArg DataW.map (dins (k, v) (adel k l))
theorem dmap_del (l : List (Nm × Value)) (k : Nm) : (dmap l).del (.string k) = dmap (adel k l) := by
  unfold dmap
  rw [DataW.del_eq]
  unfold ChangeMaps.delKey
  rw [ddel]
theorem dmap_find (k : Nm) : ∀ l : List (Nm × Value), ((l.map dent).find? fun p => p.1.sameKey (.string k)) = (l.find? fun p => p.1 == k).map dent
  | [] => rfl
  | y :: r => by
    rw [List.map_cons]
    by_cases e : y.1 = k
    · rw [List.find?_cons_of_pos (by show (y.1 == k) = true; simpa using e), List.find?_cons_of_pos (by simpa using e)]; rfl
    · rw [List.find?_cons_of_neg (by show ¬ (y.1 == k) = true; simpa using e), List.find?_cons_of_neg (by simpa using e)]; exact dmap_find k r
theorem dmap_at (l : List (Nm × Value)) (k : Nm) (z : Value) : (dmap l).atKey (.string k) (.held z) = .held ((aget k l).getD z) := by
  unfold dmap DataW.atKey aget
  simp only [dmap_find]
  cases l.find? fun p => p.1 == k <;> rfl
theorem dmap_has (l : List (Nm × Value)) (k : Nm) : Maps.has (dmap l) (.string k) = (aget k l).isSome := by
  unfold dmap aget
  rw [Maps.has_eq, ← List.isSome_find?]
  rw [dmap_find]
  cases l.find? fun p => p.1 == k <;> rfl
theorem dmap_size (l : List (Nm × Value)) : Maps.size (dmap l) = l.length := by
  unfold dmap
  rw [Maps.size_eq, List.length_map]
theorem dmap_keys (l : List (Nm × Value)) : Go.strKeys (dmap l) = l.map (·.1) := by
  unfold dmap
  induction l with
  | nil => rfl
  | cons y r ih => simp_all [Go.strKeys, Go.strOf, dent]
end Go.Proofs.Ytdcflgblaljdeaa
