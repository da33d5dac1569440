/-
  Files by their names, as a list with rising names: what stands at a name, what is put there, what is taken away; and the map of the model that reads as such a list.
-/
import Derived.Maps.OwnSet
import Derived.Sort.KeysCollected
import Derived.WalkKit
import Derived.Lib.UnsafeStr
import Derived.Lib.SlBytesRow
import Derived.Deep.Draws
import Derived.Test.YtebpdlggkncliaaProg
import Derived.Maps.AppendAt
import Derived.Laws.OwnMore
import Derived.Lib.Zigzag
import Derived.Lib.VarintDec
import Derived.RegionTactic
import Derived.BigRegion
import Derived.Lib.Hide
import Derived.WalkSpells
import Derived.Outline
import Derived.OwnWalk
import Derived.Deep.RegionHeld3
import Derived.Handy
import Derived.Deep.RegionLaw
set_option linter.unusedVariables false
namespace Go.Proofs.Ytebpdlggkncliaa

abbrev Nm := List UInt8
section
variable {α β : Type}

def Rising (l : List (Nm × α)) : Prop := l.Pairwise fun p q => bytesBefore p.1 q.1 = true
def aget (k : Nm) (l : List (Nm × α)) : Option α := (l.find? fun p => p.1 == k).map (·.2)
def adel (k : Nm) (l : List (Nm × α)) : List (Nm × α) := l.filter fun p => !p.1 == k
def ains (x : Nm × α) : List (Nm × α) → List (Nm × α)
  | [] => [x]
  | y :: r => if bytesBefore x.1 y.1 then x :: y :: r else y :: ains x r
def aput (k : Nm) (a : α) (l : List (Nm × α)) : List (Nm × α) := ains (k, a) (adel k l)

theorem mem_ains {x : Nm × α} {p : Nm × α} : ∀ {l : List (Nm × α)}, p ∈ ains x l ↔ p = x ∨ p ∈ l
  | [] => by simp [ains]
  | y :: r => by
    unfold ains
    split
    · simp
    · simp only [List.mem_cons, mem_ains (l := r)]
      constructor
      · rintro (h | h | h)
        · exact .inr (.inl h)
        · exact .inl h
        · exact .inr (.inr h)
      · rintro (h | h | h)
        · exact .inr (.inl h)
        · exact .inl h
        · exact .inr (.inr h)
theorem ains_perm (x : Nm × α) : ∀ l : List (Nm × α), (ains x l).Perm (x :: l)
  | [] => List.Perm.refl _
  | y :: r => by
    unfold ains
    split
    · exact List.Perm.refl _
    · exact ((ains_perm x r).cons y).trans (List.Perm.swap x y r)
theorem mem_adel {k : Nm} {p : Nm × α} {l : List (Nm × α)} : p ∈ adel k l ↔ p ∈ l ∧ p.1 ≠ k := by
  unfold adel
  simp [List.mem_filter]
theorem mem_aput {k : Nm} {a : α} {p : Nm × α} {l : List (Nm × α)} : p ∈ aput k a l ↔ p = (k, a) ∨ (p ∈ l ∧ p.1 ≠ k) := by
  unfold aput
  rw [mem_ains, mem_adel]

theorem rising_adel {l : List (Nm × α)} (h : Rising l) (k : Nm) : Rising (adel k l) := List.Pairwise.filter _ h
theorem rising_ains {x : Nm × α} : ∀ {l : List (Nm × α)}, Rising l → (∀ p ∈ l, p.1 ≠ x.1) → Rising (ains x l)
  | [], _, _ => by simp [ains, Rising]
  | y :: r, h, hne => by
    obtain ⟨h1, h2⟩ := List.pairwise_cons.1 h
    unfold ains
    split
    · rename_i hb
      refine List.pairwise_cons.2 ⟨fun q hq => ?_, h⟩
      rcases List.mem_cons.1 hq with rfl | hq
      · exact hb
      · exact WideShapes.bytes_trans _ _ _ hb (h1 q hq)
    · rename_i hb
      have hyx : bytesBefore y.1 x.1 = true := by
        rcases WideAt.bytes_total y.1 x.1 (hne y (by simp)) with h' | h'
        · exact h'
        · exact absurd h' hb
      refine List.pairwise_cons.2 ⟨fun q hq => ?_, rising_ains h2 fun p hp => hne p (by simp [hp])⟩
      rcases mem_ains.1 hq with rfl | hq
      · exact hyx
      · exact h1 q hq
theorem rising_aput {l : List (Nm × α)} (h : Rising l) (k : Nm) (a : α) : Rising (aput k a l) :=
  rising_ains (rising_adel h k) fun p hp => (mem_adel.1 hp).2
theorem rising_ne {l : List (Nm × α)} (h : Rising l) : l.Pairwise fun p q => p.1 ≠ q.1 :=
  h.imp fun hb e => by rw [e, WideAt.bytes_irrefl] at hb; cases hb

theorem aget_some {k : Nm} {a : α} : ∀ {l : List (Nm × α)}, Rising l → (aget k l = some a ↔ (k, a) ∈ l)
  | [], _ => by simp [aget]
  | y :: r, h => by
    obtain ⟨h1, h2⟩ := List.pairwise_cons.1 h
    unfold aget
    by_cases e : y.1 = k
    · rw [List.find?_cons_of_pos (by simpa using e)]
      simp only [Option.map_some, Option.some.injEq, List.mem_cons]
      constructor
      · rintro rfl; exact .inl (by rw [← e])
      · rintro (rfl | hm)
        · rfl
        · have := h1 _ hm
          rw [e, WideAt.bytes_irrefl] at this; cases this
    · rw [List.find?_cons_of_neg (by simpa using e)]
      have ih := aget_some (k := k) (a := a) h2
      unfold aget at ih
      rw [ih, List.mem_cons]
      constructor
      · exact .inr
      · rintro (rfl | hm)
        · exact absurd rfl e
        · exact hm
theorem aget_none {k : Nm} {l : List (Nm × α)} : aget k l = none ↔ ∀ p ∈ l, p.1 ≠ k := by
  unfold aget
  rw [Option.map_eq_none_iff, List.find?_eq_none]
  simp
theorem aget_mem {k : Nm} {a : α} {l : List (Nm × α)} (h : aget k l = some a) : (k, a) ∈ l := by
  unfold aget at h
  obtain ⟨p, hp, rfl⟩ := Option.map_eq_some_iff.1 h
  have h1 := List.find?_some hp
  have h2 := List.mem_of_find?_eq_some hp
  simp at h1
  subst h1
  exact h2

theorem aget_ext {l m : List (Nm × α)} (hl : Rising l) (hm : Rising m) (h : ∀ k, aget k l = aget k m) : l = m := by
  have hmem : ∀ p : Nm × α, p ∈ l ↔ p ∈ m := fun p => by
    have := aget_some (k := p.1) (a := p.2) hl
    rw [h, aget_some hm] at this
    exact this.symm
  have hnl : l.Nodup := (rising_ne hl).imp fun hne e => hne (by rw [e])
  have hnm : m.Nodup := (rising_ne hm).imp fun hne e => hne (by rw [e])
  refine List.Perm.eq_of_pairwise (le := fun p q : Nm × α => bytesBefore p.1 q.1 = true) ?_ hl hm ((List.perm_ext_iff_of_nodup hnl hnm).2 hmem)
  intro p q _ _ h1 h2
  have := WideShapes.bytes_trans _ _ _ h1 h2
  rw [WideAt.bytes_irrefl] at this; cases this

theorem aget_aput_same {l : List (Nm × α)} (h : Rising l) (k : Nm) (a : α) : aget k (aput k a l) = some a :=
  (aget_some (rising_aput h k a)).2 (mem_aput.2 (.inl rfl))
theorem opt_ext {x y : Option α} (h : ∀ a, x = some a ↔ y = some a) : x = y := by
  cases x with
  | some a => exact ((h a).1 rfl).symm
  | none =>
    cases y with
    | none => rfl
    | some b => exact (h b).2 rfl
theorem aget_aput_other {l : List (Nm × α)} (h : Rising l) {k k' : Nm} (hne : k' ≠ k) (a : α) : aget k' (aput k a l) = aget k' l :=
  opt_ext fun b => by
    rw [aget_some (rising_aput h k a), aget_some h, mem_aput]
    constructor
    · rintro (e | ⟨hm, _⟩)
      · exact absurd (congrArg Prod.fst e) hne
      · exact hm
    · intro hm; exact .inr ⟨hm, hne⟩
theorem aget_adel_same (l : List (Nm × α)) (k : Nm) : aget k (adel k l) = none :=
  aget_none.2 fun _ hp => (mem_adel.1 hp).2
theorem aget_adel_other {l : List (Nm × α)} (h : Rising l) {k k' : Nm} (hne : k' ≠ k) : aget k' (adel k l) = aget k' l :=
  opt_ext fun b => by
    rw [aget_some (rising_adel h k), aget_some h, mem_adel]
    exact ⟨fun h => h.1, fun h => ⟨h, hne⟩⟩
theorem aput_same {l : List (Nm × α)} (h : Rising l) {k : Nm} {a : α} (hk : aget k l = some a) : aput k a l = l :=
  aget_ext (rising_aput h k a) h fun k' => by
    by_cases e : k' = k
    · subst e; rw [aget_aput_same h, hk]
    · rw [aget_aput_other h e]
theorem aput_aput {l : List (Nm × α)} (h : Rising l) (k : Nm) (a b : α) : aput k b (aput k a l) = aput k b l :=
  aget_ext (rising_aput (rising_aput h k a) k b) (rising_aput h k b) fun k' => by
    by_cases e : k' = k
    · subst e; rw [aget_aput_same (rising_aput h _ _), aget_aput_same h]
    · rw [aget_aput_other (rising_aput h _ _) e, aget_aput_other h e, aget_aput_other h e]
theorem aput_adel {l : List (Nm × α)} (h : Rising l) (k : Nm) (b : α) : aput k b (adel k l) = aput k b l :=
  aget_ext (rising_aput (rising_adel h k) k b) (rising_aput h k b) fun k' => by
    by_cases e : k' = k
    · subst e; rw [aget_aput_same (rising_adel h _), aget_aput_same h]
    · rw [aget_aput_other (rising_adel h _) e, aget_aput_other h e, aget_adel_other h e]
theorem adel_none {l : List (Nm × α)} {k : Nm} (hk : aget k l = none) : adel k l = l :=
  List.filter_eq_self.2 fun p hp => by simpa using aget_none.1 hk p hp

/-- sums over the files -/
def asum (g : α → Nat) (l : List (Nm × α)) : Nat := (l.map fun p => g p.2).sum
theorem asum_perm {g : α → Nat} {l m : List (Nm × α)} (h : l.Perm m) : asum g l = asum g m := (h.map _).sum_nat
theorem asum_adel {g : α → Nat} {l : List (Nm × α)} (h : Rising l) (k : Nm) : asum g l = asum g (adel k l) + ((aget k l).map g).getD 0 := by
  induction l with
  | nil => simp [asum, adel, aget]
  | cons y r ih =>
    obtain ⟨h1, h2⟩ := List.pairwise_cons.1 h
    have ih := ih h2
    by_cases e : y.1 = k
    · have hd : adel k (y :: r) = adel k r := by unfold adel; rw [List.filter_cons_of_neg (by simpa using e)]
      have hr : aget k r = none := aget_none.2 fun p hp e' => by
        have := h1 p hp
        rw [e, e', WideAt.bytes_irrefl] at this; cases this
      have hg : aget k (y :: r) = some y.2 := by unfold aget; rw [List.find?_cons_of_pos (by simpa using e)]; rfl
      rw [hd, hg]
      rw [hr] at ih
      simp only [asum, List.map_cons, List.sum_cons, Option.map_some, Option.getD_some, Option.map_none, Option.getD_none] at ih ⊢
      omega
    · have hd : adel k (y :: r) = y :: adel k r := by unfold adel; rw [List.filter_cons_of_pos (by simpa using e)]
      have hg : aget k (y :: r) = aget k r := by unfold aget; rw [List.find?_cons_of_neg (by simpa using e)]
      rw [hd, hg]
      simp only [asum, List.map_cons, List.sum_cons] at ih ⊢
      omega
theorem asum_aput {g : α → Nat} {l : List (Nm × α)} (h : Rising l) (k : Nm) (a : α) : asum g (aput k a l) + ((aget k l).map g).getD 0 = asum g l + g a := by
  have h1 : asum g (aput k a l) = g a + asum g (adel k l) := by
    unfold aput
    rw [asum_perm (ains_perm _ _)]
    simp [asum]
  have h2 := asum_adel (g := g) h k
  omega
theorem alen_eq (l : List (Nm × α)) : asum (fun _ => 1) l = l.length := by
  unfold asum
  induction l with
  | nil => rfl
  | cons y r ih => rw [List.map_cons, List.sum_cons, List.length_cons, ih, Nat.add_comm]
theorem alen_adel {l : List (Nm × α)} (h : Rising l) (k : Nm) : l.length = (adel k l).length + (if (aget k l).isSome then 1 else 0) := by
  have := asum_adel (g := fun _ => 1) h k
  rw [alen_eq, alen_eq] at this
  cases hk : aget k l <;> simp [hk] at this ⊢ <;> omega
theorem alen_aput {l : List (Nm × α)} (h : Rising l) (k : Nm) (a : α) : (aput k a l).length + (if (aget k l).isSome then 1 else 0) = l.length + 1 := by
  have := asum_aput (g := fun _ => 1) h k a
  rw [alen_eq, alen_eq] at this
  cases hk : aget k l <;> simp [hk] at this ⊢ <;> omega

/-- what stands at the names, turned -/
def amap (g : α → β) (l : List (Nm × α)) : List (Nm × β) := l.map fun p => (p.1, g p.2)
theorem amap_keys (g : α → β) (l : List (Nm × α)) : (amap g l).map (·.1) = l.map (·.1) := by simp [amap]
theorem rising_amap {g : α → β} {l : List (Nm × α)} : Rising (amap g l) ↔ Rising l := by
  unfold Rising amap
  rw [List.pairwise_map]
theorem aget_amap (g : α → β) (k : Nm) (l : List (Nm × α)) : aget k (amap g l) = (aget k l).map g := by
  unfold aget amap
  induction l with
  | nil => rfl
  | cons y r ih =>
    rw [List.map_cons]
    by_cases e : y.1 = k
    · rw [List.find?_cons_of_pos (by simpa using e), List.find?_cons_of_pos (by simpa using e)]; rfl
    · rw [List.find?_cons_of_neg (by simpa using e), List.find?_cons_of_neg (by simpa using e)]; exact ih
theorem amap_adel (g : α → β) (k : Nm) (l : List (Nm × α)) : amap g (adel k l) = adel k (amap g l) := by
  unfold amap adel
  rw [List.filter_map]
  rfl
theorem amap_ains (g : α → β) (x : Nm × α) : ∀ l : List (Nm × α), amap g (ains x l) = ains (x.1, g x.2) (amap g l)
  | [] => rfl
  | y :: r => by
    have ih := amap_ains g x r
    unfold amap at ih ⊢
    simp only [List.map_cons, ains]
    split
    · simp
    · simp only [List.map_cons]; rw [ih]
theorem amap_aput (g : α → β) (k : Nm) (a : α) (l : List (Nm × α)) : amap g (aput k a l) = aput k (g a) (amap g l) := by
  unfold aput
  rw [amap_ains, amap_adel]
theorem asum_amap (g : α → β) (f : β → Nat) (l : List (Nm × α)) : asum f (amap g l) = asum (fun a => f (g a)) l := by
  unfold asum amap
  rw [List.map_map]; rfl
end

/-! ### the model's map -/
def dent (p : Nm × Value) : Lit × DataW Value := (.string p.1, .held p.2)
/-- the datum that such a map reads as: its values as they are -/
def dmap (l : List (Nm × Value)) : DataW Value := .map (l.map dent)
def asIs (v : Value) : Option (DataW Value × List MemPlace) := some (.held v, [])
theorem same_str (a b : Nm) : (Lit.string a).sameKey (.string b) = (a == b) := rfl
theorem dins (x : Nm × Value) : ∀ l : List (Nm × Value), DataW.insert (dent x) (l.map dent) = (ains x l).map dent
  | [] => rfl
  | y :: r => by
    have ih := dins x r
    simp only [List.map_cons, DataW.insert, ains]
    have e : (dent x).1.before (dent y).1 = bytesBefore x.1 y.1 := rfl
    rw [e, ih]
    split <;> simp
theorem ddel (k : Nm) (l : List (Nm × Value)) : (l.map dent).filter (ChangeMaps.notKey (.string k)) = (adel k l).map dent := by
  unfold adel
  rw [List.filter_map]
  rfl
theorem dmap_put (l : List (Nm × Value)) (k : Nm) (v : Value) : (dmap l).put (.string k) (.held v) = dmap (aput k v l) := by
  unfold dmap
  rw [DataW.put_eq]
  unfold ChangeMaps.putKey
  rw [ddel]
  exact congrArg DataW.map (dins (k, v) (adel k l))
theorem dmap_del (l : List (Nm × Value)) (k : Nm) : (dmap l).del (.string k) = dmap (adel k l) := by
  unfold dmap
  rw [DataW.del_eq]
  unfold ChangeMaps.delKey
  rw [ddel]
theorem dmap_find (k : Nm) : ∀ l : List (Nm × Value), ((l.map dent).find? fun p => p.1.sameKey (.string k)) = (l.find? fun p => p.1 == k).map dent
  | [] => rfl
  | y :: r => by
    rw [List.map_cons]
    by_cases e : y.1 = k
    · rw [List.find?_cons_of_pos (by show (y.1 == k) = true; simpa using e), List.find?_cons_of_pos (by simpa using e)]; rfl
    · rw [List.find?_cons_of_neg (by show ¬ (y.1 == k) = true; simpa using e), List.find?_cons_of_neg (by simpa using e)]; exact dmap_find k r
theorem dmap_at (l : List (Nm × Value)) (k : Nm) (z : Value) : (dmap l).atKey (.string k) (.held z) = .held ((aget k l).getD z) := by
  unfold dmap DataW.atKey aget
  simp only [dmap_find]
  cases l.find? fun p => p.1 == k <;> rfl
theorem dmap_has (l : List (Nm × Value)) (k : Nm) : Maps.has (dmap l) (.string k) = (aget k l).isSome := by
  unfold dmap aget
  rw [Maps.has_eq, ← List.isSome_find?]
  rw [dmap_find]
  cases l.find? fun p => p.1 == k <;> rfl
theorem dmap_size (l : List (Nm × Value)) : Maps.size (dmap l) = l.length := by
  unfold dmap
  rw [Maps.size_eq, List.length_map]
theorem dmap_keys (l : List (Nm × Value)) : Go.strKeys (dmap l) = l.map (·.1) := by
  unfold dmap
  induction l with
  | nil => rfl
  | cons y r ih => simp_all [Go.strKeys, Go.strOf, dent]
end Go.Proofs.Ytebpdlggkncliaa

/-
  A disk as the document has it: a most, files by rising names, how many operations are left, whether it is down; what each call makes of it.
-/
set_option linter.unusedVariables false
namespace Go.Proofs.Ytebpdlggkncliaa

/-- what a file has: its bytes, how many are synced -/
abbrev Fc := List UInt8 × Nat
structure St where
  most : Nat
  fs : List (Nm × Fc)
  left : Option Nat
  down : Bool

def St.used (s : St) : Nat := asum (fun c : Fc => c.1.length) s.fs
def mayC (x : UInt8) : Bool := (97 ≤ x.toNat && x.toNat ≤ 122) || (48 ≤ x.toNat && x.toNat ≤ 57) || x.toNat == 46 || x.toNat == 45
def rightN (nm : Nm) : Bool := 1 ≤ nm.length && nm.length ≤ 40 && nm.all mayC

structure St.wf (s : St) : Prop where
  rise : Rising s.fs
  names : ∀ p ∈ s.fs, rightN p.1 = true
  safe : ∀ p ∈ s.fs, p.2.2 ≤ p.2.1.length
  room : s.used ≤ s.most
  most : s.most ≤ 16777216
  count : s.fs.length ≤ 200
  arm : ∀ n, s.left = some n → n < 9223372036854775808
  off : s.down = true → s.left = none

/-- an operation, of a disk that is not down -/
def St.op (s : St) (f : List (Nm × Fc) → List (Nm × Fc)) : St × Nat :=
  match s.left with
  | some 0 => ({ s with left := none, down := true }, 15)
  | some (n + 1) => ({ s with left := some n, fs := f s.fs }, 0)
  | none => ({ s with fs := f s.fs }, 0)
def St.append (s : St) (nm : Nm) (l : List UInt8) : St × Nat :=
  if s.down then (s, 15) else if rightN nm = false then (s, 13)
  else if s.most < s.used + l.length ∨ (aget nm s.fs = none ∧ s.fs.length = 200) then (s, 5)
  else s.op fun fs => aput nm (((aget nm s.fs).getD ([], 0)).1 ++ l, ((aget nm s.fs).getD ([], 0)).2) fs
def St.sync (s : St) (nm : Nm) : St × Nat :=
  if s.down then (s, 15) else match aget nm s.fs with
  | none => (s, 13)
  | some c => s.op fun fs => aput nm (c.1, c.1.length) fs
def St.rename (s : St) (a b : Nm) : St × Nat :=
  if s.down then (s, 15) else match aget a s.fs with
  | none => (s, 13)
  | some c => if rightN b = false then (s, 13) else s.op fun fs => aput b c (adel a fs)
def St.remove (s : St) (nm : Nm) : St × Nat :=
  if s.down then (s, 15) else match aget nm s.fs with
  | none => (s, 13)
  | some _ => s.op fun fs => adel nm fs
def St.cut (s : St) (nm : Nm) (n : Int) : St × Nat :=
  if s.down then (s, 15) else match aget nm s.fs with
  | none => (s, 13)
  | some c => if n < 0 ∨ (c.1.length : Int) < n then (s, 2) else s.op fun fs => aput nm (c.1.take n.toNat, n.toNat) fs
def St.arm' (s : St) (n : Int) : St := if s.down then s else { s with left := some n.toNat }
def kept (c : Fc) (keeps : List Int) (i : Nat) : Nat := c.2 + min ((keeps[i]?.map Int.toNat).getD 0) (c.1.length - c.2)
def crashed (keeps : List Int) (fs : List (Nm × Fc)) : List (Nm × Fc) := fs.mapIdx fun i p => (p.1, (p.2.1.take (kept p.2 keeps i), kept p.2 keeps i))
def St.crash (s : St) (keeps : List Int) : St := { s with fs := crashed keeps s.fs, left := none, down := false }
def St.new (most : Nat) : St := ⟨most, [], none, false⟩

theorem St.new_wf {most : Nat} (h : most ≤ 16777216) : (St.new most).wf :=
  ⟨List.Pairwise.nil, (fun _ h => by cases h), (fun _ h => by cases h), Nat.zero_le _, h, Nat.zero_le _, (fun _ h => by cases h), (fun h => by cases h)⟩

theorem St.op_wf {s : St} (h : s.wf) (hd : s.down = false) {f : List (Nm × Fc) → List (Nm × Fc)}
    (hf : ({ s with fs := f s.fs } : St).wf) : (s.op f).1.wf := by
  unfold St.op
  split
  · exact ⟨h.rise, h.names, h.safe, h.room, h.most, h.count, (fun _ e => by cases e), fun _ => rfl⟩
  · rename_i n hn
    exact ⟨hf.rise, hf.names, hf.safe, hf.room, hf.most, hf.count, (fun k e => by have := h.arm _ hn; cases e; omega), fun e => by rw [hd] at e; cases e⟩
  · exact hf
theorem St.put_wf {s : St} (h : s.wf) {nm : Nm} {c : Fc} (hn : rightN nm = true) (hc : c.2 ≤ c.1.length)
    (hr : s.used + c.1.length ≤ s.most + ((aget nm s.fs).getD ([], 0)).1.length) (hl : aget nm s.fs = none → s.fs.length < 200) : ({ s with fs := aput nm c s.fs } : St).wf := by
  have hu := asum_aput (g := fun c : Fc => c.1.length) h.rise nm c
  have hk := alen_aput h.rise nm c
  refine ⟨rising_aput h.rise _ _, ?_, ?_, ?_, h.most, ?_, h.arm, h.off⟩
  · intro p hp
    rcases mem_aput.1 hp with rfl | ⟨hp, _⟩
    · exact hn
    · exact h.names p hp
  · intro p hp
    rcases mem_aput.1 hp with rfl | ⟨hp, _⟩
    · exact hc
    · exact h.safe p hp
  · show asum (fun c : Fc => c.1.length) (aput nm c s.fs) ≤ s.most
    unfold St.used at hr
    cases hg : aget nm s.fs with
    | none => rw [hg] at hu hr; simp at hu hr; omega
    | some d => rw [hg] at hu hr; simp at hu hr; omega
  · show (aput nm c s.fs).length ≤ 200
    have := h.count
    cases hg : aget nm s.fs with
    | none => have := hl hg; rw [hg] at hk; simp at hk; omega
    | some d => rw [hg] at hk; simp at hk; omega
theorem St.del_wf {s : St} (h : s.wf) (nm : Nm) : ({ s with fs := adel nm s.fs } : St).wf := by
  have hu := asum_adel (g := fun c : Fc => c.1.length) h.rise nm
  have hk := alen_adel h.rise nm
  refine ⟨rising_adel h.rise _, fun p hp => h.names p (mem_adel.1 hp).1, fun p hp => h.safe p (mem_adel.1 hp).1, ?_, h.most, ?_, h.arm, h.off⟩
  · have := h.room
    unfold St.used at this
    show asum (fun c : Fc => c.1.length) (adel nm s.fs) ≤ s.most
    omega
  · show (adel nm s.fs).length ≤ 200
    have := h.count
    omega
theorem used_ge {s : St} {nm : Nm} {c : Fc} (h : s.wf) (hg : aget nm s.fs = some c) : c.1.length ≤ s.used := by
  have hu := asum_adel (g := fun c : Fc => c.1.length) h.rise nm
  rw [hg] at hu
  unfold St.used
  simp at hu
  omega
theorem St.append_wf {s : St} (h : s.wf) (nm : Nm) (l : List UInt8) : (s.append nm l).1.wf := by
  unfold St.append
  split
  · exact h
  rename_i hd
  split
  · exact h
  rename_i hr
  split
  · exact h
  rename_i hf
  refine St.op_wf h (by simpa using hd) (St.put_wf h (by simpa using hr) ?_ ?_ ?_)
  · cases hg : aget nm s.fs with
    | none => simp
    | some c => have := h.safe _ (aget_mem hg); simp at this ⊢; omega
  · cases hg : aget nm s.fs with
    | none => simp; omega
    | some c => simp; omega
  · intro hg
    have := h.count
    have : ¬ s.fs.length = 200 := fun e => hf (.inr ⟨hg, e⟩)
    omega
theorem St.sync_wf {s : St} (h : s.wf) (nm : Nm) : (s.sync nm).1.wf := by
  unfold St.sync
  split
  · exact h
  rename_i hd
  split
  · exact h
  rename_i c hg
  refine St.op_wf h (by simpa using hd) (St.put_wf h (h.names _ (aget_mem hg)) (Nat.le_refl _) ?_ ?_)
  · have := h.room
    rw [hg]; simp; omega
  · intro e; rw [hg] at e; cases e
theorem St.remove_wf {s : St} (h : s.wf) (nm : Nm) : (s.remove nm).1.wf := by
  unfold St.remove
  split
  · exact h
  rename_i hd
  split
  · exact h
  exact St.op_wf h (by simpa using hd) (St.del_wf h nm)
theorem St.cut_wf {s : St} (h : s.wf) (nm : Nm) (n : Int) : (s.cut nm n).1.wf := by
  unfold St.cut
  split
  · exact h
  rename_i hd
  split
  · exact h
  rename_i c hg
  split
  · exact h
  rename_i hn
  refine St.op_wf h (by simpa using hd) (St.put_wf h (h.names _ (aget_mem hg)) ?_ ?_ ?_)
  · simp; omega
  · have := h.room
    rw [hg]; simp; omega
  · intro e; rw [hg] at e; cases e
theorem St.rename_wf {s : St} (h : s.wf) (a b : Nm) : (s.rename a b).1.wf := by
  unfold St.rename
  split
  · exact h
  rename_i hd
  split
  · exact h
  rename_i c hg
  split
  · exact h
  rename_i hr
  have hdel := St.del_wf h a
  have hu := asum_adel (g := fun c : Fc => c.1.length) h.rise a
  have hk := alen_adel h.rise a
  rw [hg] at hu hk
  refine St.op_wf h (by simpa using hd) ?_
  refine St.put_wf (s := { s with fs := adel a s.fs }) hdel (by simpa using hr) (h.safe _ (aget_mem hg)) ?_ ?_
  · have := h.room
    unfold St.used at this
    show asum (fun c : Fc => c.1.length) (adel a s.fs) + c.1.length ≤ s.most + ((aget b (adel a s.fs)).getD ([], 0)).1.length
    simp at hu
    omega
  · intro _
    have := h.count
    show (adel a s.fs).length < 200
    simp at hk
    omega
theorem St.arm_wf {s : St} (h : s.wf) {n : Int} (hn : n < 9223372036854775808) : (s.arm' n).wf := by
  unfold St.arm'
  split
  · exact h
  · rename_i hd
    exact ⟨h.rise, h.names, h.safe, h.room, h.most, h.count, (fun k e => by cases e; omega), fun e => absurd e (by simpa using hd)⟩
theorem kept_le {c : Fc} (h : c.2 ≤ c.1.length) (keeps : List Int) (i : Nat) : kept c keeps i ≤ c.1.length ∧ c.2 ≤ kept c keeps i := by
  unfold kept
  omega
theorem crashed_keys (keeps : List Int) (fs : List (Nm × Fc)) : (crashed keeps fs).map (·.1) = fs.map (·.1) := by
  unfold crashed
  apply List.ext_getElem
  · simp
  · intro i h1 h2; simp
theorem rising_keys {α β : Type} {l : List (Nm × α)} {m : List (Nm × β)} (h : l.map (·.1) = m.map (·.1)) : Rising l ↔ Rising m := by
  unfold Rising
  have e : ∀ {γ : Type} (x : List (Nm × γ)), x.Pairwise (fun p q => bytesBefore p.1 q.1 = true) ↔ (x.map (·.1)).Pairwise fun p q => bytesBefore p q = true := fun x => by rw [List.pairwise_map]
  rw [e, e, h]
theorem asum_mono {α : Type} {g : α → Nat} : ∀ {l m : List (Nm × α)}, l.length = m.length → (∀ (i : Nat) x y, l[i]? = some x → m[i]? = some y → g x.2 ≤ g y.2) → asum g l ≤ asum g m
  | [], [], _, _ => Nat.le_refl _
  | [], _ :: _, h, _ => by simp at h
  | _ :: _, [], h, _ => by simp at h
  | x :: l, y :: m, h, hi => by
    have ih := asum_mono (g := g) (l := l) (m := m) (by simpa using h) fun i a b ha hb => hi (i + 1) a b (by simpa using ha) (by simpa using hb)
    have h0 := hi 0 x y rfl rfl
    simp only [asum, List.map_cons, List.sum_cons] at ih ⊢
    omega
theorem St.crash_wf {s : St} (h : s.wf) (keeps : List Int) : (s.crash keeps).wf := by
  have hkeys := crashed_keys keeps s.fs
  have hlen : (crashed keeps s.fs).length = s.fs.length := by simp [crashed]
  have hmem : ∀ p ∈ crashed keeps s.fs, ∃ (i : Nat) (q : Nm × Fc), s.fs[i]? = some q ∧ p = (q.1, (q.2.1.take (kept q.2 keeps i), kept q.2 keeps i)) := by
    intro p hp
    obtain ⟨i, hi, e⟩ := List.getElem_of_mem hp
    have hi' : i < s.fs.length := by omega
    refine ⟨i, s.fs[i], List.getElem?_eq_getElem hi', ?_⟩
    rw [← e]
    simp [crashed]
  refine ⟨(rising_keys hkeys).2 h.rise, ?_, ?_, ?_, h.most, by show (crashed keeps s.fs).length ≤ 200; rw [hlen]; exact h.count, (fun _ e => by cases e), fun e => by cases e⟩
  · intro p hp
    obtain ⟨i, q, hq, rfl⟩ := hmem p hp
    exact h.names q (List.mem_of_getElem? hq)
  · intro p hp
    obtain ⟨i, q, hq, rfl⟩ := hmem p hp
    have := kept_le (h.safe q (List.mem_of_getElem? hq)) keeps i
    simp; omega
  · refine Nat.le_trans (asum_mono hlen ?_) h.room
    intro i x y hx hy
    have hx : (crashed keeps s.fs)[i]? = some x := hx
    unfold crashed at hx
    rw [List.getElem?_mapIdx, hy] at hx
    simp only [Option.map_some, Option.some.injEq] at hx
    subst hx
    simp; omega
end Go.Proofs.Ytebpdlggkncliaa

/-
  Bytes in memory, without the program: what it is that a slice of bytes holds, how that is kept, how it grows by an append, and what its string is.
-/
namespace Go.Proofs.Ytebpdlggkncliaa
open Go.RowKit
open Go.Lib (byteCells byteCells_length byteCells_append)

/-- The address A leads to the bytes l, in the world w. -/
def Src (w : World) (A : Option Addr) (l : List UInt8) : Prop :=
  l = [] ∨ ∃ b o, A = some ⟨b, o, none⟩ ∧ ∀ j u, l[j]? = some u → w.cell? ⟨b, o + j, none⟩ = some (.int .u8 (u.toNat : Int))

theorem Src.nil (w : World) (A : Option Addr) : Src w A [] := .inl rfl
theorem Src.keep {w w' : World} {A : Option Addr} {l : List UInt8} (h : Src w A l)
    (hk : ∀ p v, w.cell? p = some v → w'.cell? p = some v) : Src w' A l := by
  rcases h with h | ⟨b, o, hA, hc⟩
  · exact .inl h
  · exact .inr ⟨b, o, hA, fun j u hj => hk _ _ (hc j u hj)⟩
theorem cell_below {w w' : World} (hb : Below w.heap.size w w') (p : Addr) (v : Value) (h : w.cell? p = some v) : w'.cell? p = some v :=
  (hb.cell (block_lt_of_cell h)).trans h
theorem Src.below {w w' : World} {A : Option Addr} {l : List UInt8} (h : Src w A l) (hb : Below w.heap.size w w') : Src w' A l :=
  h.keep (cell_below hb)
theorem Src.drew {w : World} {A : Option Addr} {l : List UInt8} (h : Src w A l) : Src w.drew A l := h
theorem Src.drewN {w : World} {A : Option Addr} {l : List UInt8} (h : Src w A l) (k : Nat) : Src (w.drewN k) A l := h
theorem Src.alloc {w : World} {A : Option Addr} {l : List UInt8} (h : Src w A l) (o : Obj) : Src (w.alloc o) A l :=
  h.below ((Below.refl _ _).alloc (Nat.le_refl _) o)

/-- A slice value (its three parts) holds the bytes l. -/
structure IsB (w : World) (A : Option Addr) (n c : Nat) (l : List UInt8) : Prop where
  len : l.length = n
  cap : n ≤ c
  none_ : A = none → c = 0
  src : Src w A l

theorem IsB.nil (w : World) : IsB w none 0 0 [] := ⟨rfl, Nat.le_refl _, fun _ => rfl, .inl rfl⟩
theorem IsB.below {w w' : World} {A : Option Addr} {n c : Nat} {l : List UInt8} (h : IsB w A n c l) (hb : Below w.heap.size w w') : IsB w' A n c l :=
  ⟨h.len, h.cap, h.none_, h.src.below hb⟩
theorem IsB.alloc {w : World} {A : Option Addr} {n c : Nat} {l : List UInt8} (h : IsB w A n c l) (o : Obj) : IsB (w.alloc o) A n c l :=
  ⟨h.len, h.cap, h.none_, h.src.alloc o⟩
theorem IsB.drewN {w : World} {A : Option Addr} {n c : Nat} {l : List UInt8} (h : IsB w A n c l) (k : Nat) : IsB (w.drewN k) A n c l :=
  ⟨h.len, h.cap, h.none_, h.src.drewN k⟩

/-- The slice value v, of elements of type e, is the call's own (its blocks: from base on) and holds the bytes l. -/
def Own (w : World) (base : Nat) (e : TypeId) (v : Value) (l : List UInt8) : Prop := w.ownsRow base e 1 v l.length (byteCells l)
theorem Own.nil (w : World) (base : Nat) (e : TypeId) : Own w base e (.slice none 0 0) [] := World.ownsRow_nil w base e 1

/-- What a call owns is a slice that holds its bytes. -/
theorem own_is {w : World} {base : Nat} {e : TypeId} {v : Value} {l : List UInt8} (h : Own w base e v l) :
    ∃ A c, v = .slice A l.length c ∧ IsB w A l.length c l ∧ c ≤ maxLen := by
  unfold Own at h
  rcases h.2 with ⟨rfl, hn⟩ | ⟨g, cap, cur, rfl, _, hg, hnc, hcm, hcs, htake⟩
  · have : l = [] := List.eq_nil_of_length_eq_zero hn
    subst this
    exact ⟨none, 0, rfl, IsB.nil w, Nat.zero_le _⟩
  · refine ⟨some ⟨g, 0, none⟩, cap, rfl, ⟨rfl, hnc, (fun h => by cases h), .inr ⟨g, 0, rfl, ?_⟩⟩, hcm⟩
    intro j u hj
    have hx := World.ownsRow.cells (g := g) h rfl j (.int .u8 (u.toNat : Int)) (by rw [byteCells, List.getElem?_map, hj]; rfl)
    simpa [Addr.add_lit] using hx

/-- Either the call's own, or as full as it can be: an append makes new memory, or writes what is the call's own. -/
def Full (w : World) (base : Nat) (e : TypeId) (v : Value) (l : List UInt8) : Prop :=
  Own w base e v l ∨ ∃ A, v = .slice A l.length l.length ∧ (A = none → l = []) ∧ Src w A l
theorem Own.below {w w' : World} {base : Nat} {e : TypeId} {v : Value} {l : List UInt8} (h : Own w base e v l) (hb : Below w.heap.size w w') : Own w' base e v l := by
  unfold Own at h ⊢
  refine ⟨h.1, ?_⟩
  rcases h.2 with hn | ⟨g, cap, cur, rfl, hbg, hg, hr⟩
  · exact .inl hn
  · exact .inr ⟨g, cap, cur, rfl, hbg, (hb.block g (Array.getElem?_eq_some_iff.1 hg).1).trans hg, hr⟩
theorem Own.mono {w : World} {base base' : Nat} {e : TypeId} {v : Value} {l : List UInt8} (h : Own w base e v l) (hb : base' ≤ base) : Own w base' e v l := by
  unfold Own at h ⊢
  refine ⟨h.1, ?_⟩
  rcases h.2 with hn | ⟨g, cap, cur, rfl, hbg, hr⟩
  · exact .inl hn
  · exact .inr ⟨g, cap, cur, rfl, Nat.le_trans hb hbg, hr⟩
theorem Full.below {w w' : World} {base : Nat} {e : TypeId} {v : Value} {l : List UInt8} (h : Full w base e v l) (hb : Below w.heap.size w w') : Full w' base e v l := by
  rcases h with h | ⟨A, rfl, hA, hs⟩
  · exact .inl (h.below hb)
  · exact .inr ⟨A, rfl, hA, hs.below hb⟩
theorem byteCells_one (l : List UInt8) : ∀ v ∈ byteCells l, v.oneCell' = true := by
  intro v hv
  obtain ⟨u, _, rfl⟩ := List.mem_map.1 hv
  rfl

theorem cells_of {w : World} {ad : Addr} {news : List UInt8} (hc : ∀ j u, news[j]? = some u → w.cell? (ad.add j) = some (.int .u8 (u.toNat : Int))) :
    ∀ j u, (byteCells news)[j]? = some u → w.cell? (ad.add j) = some u := by
  intro j u hj
  rw [byteCells, List.getElem?_map] at hj
  cases hn : news[j]? with
  | none => rw [hn] at hj; cases hj
  | some q => rw [hn] at hj; obtain rfl := Option.some.inj hj; exact hc j q hn
theorem Src.cells {w : World} {A : Option Addr} {l : List UInt8} (h : Src w A l) : ∀ b, A = some b → ∀ j u, (byteCells l)[j]? = some u → w.cell? (b.add j) = some u := by
  rcases h with rfl | ⟨b', o', hA', hcl⟩
  · intro b _ j u hj
    simp [byteCells] at hj
  · intro b hb
    rw [hA'] at hb
    obtain rfl := Option.some.inj hb
    refine cells_of fun j u hj => ?_
    rw [Addr.add_lit]
    exact hcl j u hj

/-- An append of some bytes to what is the call's own, or full: the call's own. -/
theorem run_put {P : Program} (w : World) (t ty e : TypeId) (i : TypeInfo) (h1 : P.underlying t = some (.slice e)) (h2 : P.info? e = some i) (h3 : i.zero = some (.int .u8 0)) (h4 : i.size = 1) (h5 : i.bytes = 1)
    (base : Nat) (v : Value) (l : List UInt8) (hf : Full w base e v l)
    (ad : Addr) (m c : Nat) (news : List UInt8) (hm : news.length = m) (hpos : 0 < m)
    (hc : ∀ j u, news[j]? = some u → w.cell? (ad.add j) = some (.int .u8 (u.toNat : Int)))
    (hsize : l.length + m ≤ 70368744177664) (hbase : base ≤ w.heap.size) :
    ∃ v' w', (Builtin.append_ #[t, t] ty #[v, .slice (some ad) m c]).run P w = .ok v' w' ∧ Own w' base e v' (l ++ news) ∧ Below base w w' := by
  subst hm
  have el : l.length + news.length = (l ++ news).length := (List.length_append).symm
  have ec : byteCells l ++ byteCells news = byteCells (l ++ news) := (byteCells_append _ _).symm
  unfold Full Own at hf
  rcases hf with hown | ⟨A, rfl, hA, hsrc⟩
  · obtain ⟨v', w', hr, hown', hgr, _⟩ := run_append_own (P := P) w base t ty e i (.int .u8 0) 1 1 h1 h2 h3 h4 h5 rfl (by decide) v l.length (byteCells l) hown ad news.length c (byteCells news)
      (by rw [byteCells_length, Nat.mul_one]) (cells_of hc) (byteCells_one _) (by unfold maxLen; omega) (by omega) hbase
    rw [el, ec] at hown'
    exact ⟨v', w', hr, hown', (Below.refl base w).grown hgr hbase fun k hk => (hown.lt k hk).1⟩
  · have fin : ∀ v' w', w'.ownsRow w.heap.size e 1 v' (l.length + news.length) (byteCells l ++ byteCells news) → w.grownBy w' none → Own w' base e v' (l ++ news) ∧ Below base w w' := by
      intro v' w' hown' hgr
      rw [el, ec] at hown'
      refine ⟨⟨hown'.1, ?_⟩, (Below.refl base w).grown hgr hbase (fun k hk => by cases hk)⟩
      rcases hown'.2 with hn | ⟨g, cap, cur, hv, hbg, hr⟩
      · exact .inl hn
      · exact .inr ⟨g, cap, cur, hv, Nat.le_trans hbase hbg, hr⟩
    cases A with
    | some b =>
      obtain ⟨v', w', hrun, r1, r2⟩ := run_append_arg_grows (P := P) w t ty e i (.int .u8 0) 1 1 h1 h2 h3 h4 h5 rfl (by decide) b l.length l.length (byteCells l) (by rw [byteCells_length, Nat.mul_one]) (hsrc.cells b rfl) ad news.length c (byteCells news)
        (by rw [byteCells_length, Nat.mul_one]) (cells_of hc) (by omega) (by unfold maxLen; omega) (by omega)
      exact ⟨v', w', hrun, fin v' w' r1 r2⟩
    | none =>
      obtain rfl := hA rfl
      obtain ⟨v', w', hr, hown', hgr, _⟩ := run_append_own (P := P) w w.heap.size t ty e i (.int .u8 0) 1 1 h1 h2 h3 h4 h5 rfl (by decide) (.slice none 0 0) 0 [] (World.ownsRow_nil w _ e 1) ad news.length c (byteCells news)
        (by rw [byteCells_length, Nat.mul_one]) (cells_of hc) (byteCells_one _) (by unfold maxLen; omega) (by omega) (Nat.le_refl _)
      exact ⟨v', w', hr, fin v' w' hown' hgr⟩

/-- An append of whatever bytes (none, nil too) to what is the call's own. -/
theorem run_putAny {P : Program} (w : World) (t ty e : TypeId) (i : TypeInfo) (h1 : P.underlying t = some (.slice e)) (h2 : P.info? e = some i) (h3 : i.zero = some (.int .u8 0)) (h4 : i.size = 1) (h5 : i.bytes = 1)
    (base : Nat) (v : Value) (l : List UInt8) (hown : Own w base e v l)
    (B : Option Addr) (m c : Nat) (news : List UInt8) (hb : IsB w B m c news)
    (hsize : l.length + m ≤ 70368744177664) (hbase : base ≤ w.heap.size) :
    ∃ v' w', (Builtin.append_ #[t, t] ty #[v, .slice B m c]).run P w = .ok v' w' ∧ Own w' base e v' (l ++ news) ∧ Below base w w' := by
  obtain ⟨rfl, hcap, hnone, hsrc⟩ := hb
  unfold Own at hown
  cases B with
  | some ad =>
    have el : l.length + news.length = (l ++ news).length := (List.length_append).symm
    have ec : byteCells l ++ byteCells news = byteCells (l ++ news) := (byteCells_append _ _).symm
    obtain ⟨v', w', hr, hown', hgr, _⟩ := run_append_own (P := P) w base t ty e i (.int .u8 0) 1 1 h1 h2 h3 h4 h5 rfl (by decide) v l.length (byteCells l) hown ad news.length c (byteCells news)
      (by rw [byteCells_length, Nat.mul_one]) (hsrc.cells ad rfl) (byteCells_one _) (by unfold maxLen; omega) (by omega) hbase
    rw [el, ec] at hown'
    exact ⟨v', w', hr, hown', (Below.refl base w).grown hgr hbase fun k hk => (hown.lt k hk).1⟩
  | none =>
    obtain rfl : c = 0 := hnone rfl
    obtain rfl : news = [] := List.eq_nil_of_length_eq_zero (by omega)
    refine ⟨v, w, run_append_owned_none w base t ty e i 1 h1 h2 v l.length (byteCells l) hown, ?_, Below.refl _ _⟩
    rw [List.append_nil]
    exact hown

/-- The same, for the walk. -/
theorem wpList_run {P : Program} (w : World) {ops : Array Oper} {rest : List Oper} {o : Oper} {a : Act} {Q : Exit → Act → World → Prop}
    (hg : o.guard = none) (s x : Operand) (t : TypeId) (hop : o.op = Op.call { callee := Callee.builtin Builtin.append, args := #[s, x], argTypes := #[t, t] })
    {R : Value → World → Prop} (h : ∃ v' w', (Builtin.append_ #[t, t] o.type #[a.eval s, a.eval x]).run P w = .ok v' w' ∧ R v' w')
    (hK : ∀ v' w', R v' w' → wpList P ops Q rest (a.put o.dst v') w') : wpList P ops Q (o :: rest) a w := by
  refine wpList_plain hg fun K hK' => ?_
  obtain ⟨v', w', hrun, hR⟩ := h
  unfold Oper.wp
  simp [execOp, hop, resolve, invoke, builtin, hrun, Result.andThen]
  exact hK' _ _ (hK v' w' hR)
theorem wpList_put {P : Program} (w : World) {ops : Array Oper} {rest : List Oper} {o : Oper} {a : Act} {Q : Exit → Act → World → Prop}
    (hg : o.guard = none) (s x : Operand) (t : TypeId) (hop : o.op = Op.call { callee := Callee.builtin Builtin.append, args := #[s, x], argTypes := #[t, t] })
    (e : TypeId) (i : TypeInfo) (h1 : P.underlying t = some (.slice e)) (h2 : P.info? e = some i) (h3 : i.zero = some (.int .u8 0)) (h4 : i.size = 1) (h5 : i.bytes = 1)
    (base : Nat) (v : Value) (l : List UInt8) (hs : a.eval s = v) (hf : Full w base e v l)
    (ad : Addr) (m c : Nat) (news : List UInt8) (hx : a.eval x = .slice (some ad) m c) (hm : news.length = m) (hpos : 0 < m)
    (hc : ∀ j u, news[j]? = some u → w.cell? (ad.add j) = some (.int .u8 (u.toNat : Int)))
    (hsize : l.length + m ≤ 70368744177664) (hbase : base ≤ w.heap.size)
    (hK : ∀ v' w', Own w' base e v' (l ++ news) → Below base w w' → wpList P ops Q rest (a.put o.dst v') w') :
    wpList P ops Q (o :: rest) a w :=
  wpList_run w hg s x t hop (R := fun v' w' => Own w' base e v' (l ++ news) ∧ Below base w w')
    (by rw [hs, hx]; exact run_put w t o.type e i h1 h2 h3 h4 h5 base v l hf ad m c news hm hpos hc hsize hbase) fun v' w' h => hK v' w' h.1 h.2
theorem wpList_putAny {P : Program} (w : World) {ops : Array Oper} {rest : List Oper} {o : Oper} {a : Act} {Q : Exit → Act → World → Prop}
    (hg : o.guard = none) (s x : Operand) (t : TypeId) (hop : o.op = Op.call { callee := Callee.builtin Builtin.append, args := #[s, x], argTypes := #[t, t] })
    (e : TypeId) (i : TypeInfo) (h1 : P.underlying t = some (.slice e)) (h2 : P.info? e = some i) (h3 : i.zero = some (.int .u8 0)) (h4 : i.size = 1) (h5 : i.bytes = 1)
    (base : Nat) (v : Value) (l : List UInt8) (hs : a.eval s = v) (hown : Own w base e v l)
    (B : Option Addr) (m c : Nat) (news : List UInt8) (hx : a.eval x = .slice B m c) (hb : IsB w B m c news)
    (hsize : l.length + m ≤ 70368744177664) (hbase : base ≤ w.heap.size)
    (hK : ∀ v' w', Own w' base e v' (l ++ news) → Below base w w' → wpList P ops Q rest (a.put o.dst v') w') :
    wpList P ops Q (o :: rest) a w :=
  wpList_run w hg s x t hop (R := fun v' w' => Own w' base e v' (l ++ news) ∧ Below base w w')
    (by rw [hs, hx]; exact run_putAny w t o.type e i h1 h2 h3 h4 h5 base v l hown B m c news hb hsize hbase) fun v' w' h => hK v' w' h.1 h.2
/-- The same, as a step of a region that draws its order. -/
theorem step_run {P : Program} {ops : Array Oper} {o : Oper} {a : Act} {w : World} {K : Act → World → Prop} {Q : Exit → Act → World → Prop} {E : Prop}
    (hw : Region.wanted o (yielded ops a.tmps) = true) (s x : Operand) (t : TypeId) (hop : o.op = Op.call { callee := Callee.builtin Builtin.append, args := #[s, x], argTypes := #[t, t] })
    {R : Value → World → Prop} (h : ∃ v' w', (Builtin.append_ #[t, t] o.type #[a.eval s, a.eval x]).run P w = .ok v' w' ∧ R v' w')
    (hK : ∀ v' w', R v' w' → K (a.put o.dst v') w') :
    if Region.wanted o (yielded ops a.tmps) = true then Oper.wp P o a w K Q else E := by
  rw [if_pos hw]
  obtain ⟨v', w', hrun, hR⟩ := h
  unfold Oper.wp
  simp [execOp, hop, resolve, invoke, builtin, hrun, Result.andThen]
  exact hK v' w' hR

/-- The string of a slice of bytes. -/
theorem run_str {P : Program} (w : World) (src dst e : TypeId) (hs : P.underlying src = some (.slice e)) (he : P.underlying e = some (.int .u8)) (hd : P.underlying dst = some .string)
    (A : Option Addr) (n c : Nat) (l : List UInt8) (h : IsB w A n c l) :
    (convert src dst (.slice A n c)).run P w = .ok (.string ⟨l.toArray⟩) w := by
  obtain ⟨rfl, _, hnone, hsrc⟩ := h
  rcases hsrc with rfl | ⟨b, o, rfl, hc⟩
  · rw [run_convert_bytes_string w src dst e A _ c hs he hd]
    unfold Conv.bytesToString
    cases A with
    | none => rfl
    | some a =>
      simp [loadCells, loadCellsFrom, Sem.run_pure]
      rfl
  · refine Lib.run_convert_whole w src e dst hs he hd b o ⟨l.toArray⟩ ?_ c
    intro i hi
    have hi' : i < l.length := hi
    have hj := hc i l[i] (List.getElem?_eq_getElem hi')
    rw [hj]
    rfl
end Go.Proofs.Ytebpdlggkncliaa

/-
  What is kept while other blocks turn; a row of bytes that a call may append to in place.
-/
set_option linter.unusedVariables false
namespace Go.Proofs.Ytebpdlggkncliaa
open Go.RowKit
open Go.Lib (byteCells byteCells_length byteCells_append)

/-- w' is w but for the blocks of F, and new ones -/
structure Away (F : Nat → Prop) (w w' : World) : Prop where
  os : w'.os = w.os
  tape : w'.tape = w.tape
  output : w'.output = w.output
  size : w.heap.size ≤ w'.heap.size
  block : ∀ b, b < w.heap.size → ¬ F b → w'.heap[b]? = w.heap[b]?
theorem Away.refl (F : Nat → Prop) (w : World) : Away F w w := ⟨rfl, rfl, rfl, Nat.le_refl _, fun _ _ _ => rfl⟩
theorem Away.trans {F F' : Nat → Prop} {w w1 w2 : World} (h : Away F w w1) (h' : Away F' w1 w2) (hf : ∀ b, F' b → F b ∨ w.heap.size ≤ b) : Away F w w2 :=
  ⟨h'.os.trans h.os, h'.tape.trans h.tape, h'.output.trans h.output, Nat.le_trans h.size h'.size, fun b hb hn =>
    (h'.block b (Nat.lt_of_lt_of_le hb h.size) fun e => by rcases hf b e with e | e; exact hn e; omega).trans (h.block b hb hn)⟩
theorem Away.mono {F F' : Nat → Prop} {w w1 : World} (h : Away F w w1) (hf : ∀ b, b < w.heap.size → F b → F' b) : Away F' w w1 :=
  ⟨h.os, h.tape, h.output, h.size, fun b hb hn => h.block b hb fun e => hn (hf b hb e)⟩
theorem Away.of_below {B : Nat} {w w1 : World} (h : Below B w w1) : Away (fun b => B ≤ b) w w1 :=
  ⟨h.os, h.tape, h.output, h.size, fun b _ hn => h.block b (by omega)⟩
theorem Away.of_new {w w1 : World} (h : Below w.heap.size w w1) (F : Nat → Prop) : Away F w w1 :=
  (Away.of_below h).mono fun b hb e => by omega
theorem Away.below {B : Nat} {F : Nat → Prop} {w w1 : World} (h : Away F w w1) (hB : B ≤ w.heap.size) (hf : ∀ b, F b → B ≤ b) : Below B w w1 :=
  ⟨h.os, h.tape, h.output, h.size, fun b hb => h.block b (Nat.lt_of_lt_of_le hb hB) fun e => by have := hf b e; omega⟩
theorem Away.of_grown {w w1 : World} {row : Option Nat} (h : w.grownBy w1 row) : Away (fun b => row = some b) w w1 :=
  ⟨h.os, h.tape, h.output, h.size, fun b hb hn => h.block b hb fun e => hn e.symm⟩
theorem Away.setCell (w : World) (a : Addr) (v : Value) : Away (fun b => b = a.block) w (w.setCell a v) :=
  ⟨rfl, rfl, rfl, by simp [World.setCell], fun b hb hn => Below.heap_setCell w a v b hn⟩
theorem Away.drew {F : Nat → Prop} {w w1 : World} (h : Away F w w1) : Away F w w1.drew := ⟨h.os, h.tape, h.output, h.size, h.block⟩
/-- a file in memory: where its row lies -/
structure Raw where
  g : Option Nat
  cap : Nat
  c : List UInt8 × Nat
def Raw.sl (r : Raw) : Value := .slice (r.g.map fun b => ⟨b, 0, none⟩) r.c.1.length r.cap
def Raw.val (r : Raw) : Value := .agg #[r.sl, .int .i64 (r.c.2 : Int)]
def Raw.zero : Raw := ⟨none, 0, ([], 0)⟩
def FRow (w : World) (r : Raw) : Prop := w.ownsRow 0 5 1 r.sl r.c.1.length (byteCells r.c.1)
theorem FRow.zero (w : World) : FRow w Raw.zero := World.ownsRow_nil w 0 _ 1
theorem Raw.own (r : Raw) : r.sl.ownBlock = r.g := by
  unfold Raw.sl
  cases r.g <;> rfl
theorem FRow.lt {w : World} {r : Raw} (h : FRow w r) {b : Nat} (hb : r.g = some b) : b < w.heap.size :=
  (World.ownsRow.lt h b (by rw [Raw.own, hb])).2
theorem FRow.keep {w w' : World} {r : Raw} (h : FRow w r) (hk : ∀ b, r.g = some b → w'.heap[b]? = w.heap[b]?) : FRow w' r := by
  refine ⟨h.1, ?_⟩
  rcases h.2 with hn | ⟨g, cap, cur, hv, hbg, hg, hr⟩
  · exact .inl hn
  · refine .inr ⟨g, cap, cur, hv, hbg, (hk g ?_).trans hg, hr⟩
    have := Raw.own r
    rw [hv] at this
    exact this.symm
theorem FRow.away {F : Nat → Prop} {w w' : World} {r : Raw} (h : FRow w r) (ha : Away F w w') (hf : ∀ b, r.g = some b → ¬ F b) : FRow w' r :=
  h.keep fun b hb => ha.block b (h.lt hb) (hf b hb)
theorem FRow.isB {w : World} {r : Raw} (h : FRow w r) : IsB w (r.g.map fun b => ⟨b, 0, none⟩) r.c.1.length r.cap r.c.1 := by
  have h' : Own w 0 5 r.sl r.c.1 := h
  obtain ⟨A, c, hv, hi, _⟩ := own_is h'
  unfold Raw.sl at hv
  simp only [Value.slice.injEq] at hv
  obtain ⟨rfl, _, rfl⟩ := hv
  exact hi
/-- a row that the call made is a raw one -/
theorem row_of_own {w : World} {base n : Nat} {v : Value} {l : List UInt8} (h : w.ownsRow base 5 1 v n (byteCells l)) (s : Nat) (hn : n = l.length) : ∃ r : Raw, v = r.sl ∧ r.c = (l, s) ∧ FRow w r := by
  subst hn
  rcases h.2 with ⟨rfl, hn⟩ | ⟨g, cap, cur, rfl, hbg, hg, hr⟩
  · have : l = [] := List.eq_nil_of_length_eq_zero hn
    subst this
    exact ⟨⟨none, 0, ([], s)⟩, rfl, rfl, World.ownsRow_nil w 0 _ 1⟩
  · exact ⟨⟨some g, cap, (l, s)⟩, rfl, rfl, h.1, .inr ⟨g, cap, cur, rfl, Nat.zero_le _, hg, hr⟩⟩

theorem infoU8 : (Try.prog.info? 5).map (fun i => (i.zero, i.size, i.bytes)) = some (some (.int .u8 0), 1, 1) := by kernel_rfl
/-- an append to a row -/
theorem row_append {w : World} {r : Raw} (h : FRow w r) (ty : TypeId) {B : Option Addr} {m c : Nat} {news : List UInt8} (hB : IsB w B m c news) (hsz : r.c.1.length + m ≤ 70368744177664) :
    ∃ (r' : Raw) (w' : World), (Builtin.append_ #[26, 26] ty #[r.sl, .slice B m c]).run Try.prog w = .ok r'.sl w' ∧ r'.c = (r.c.1 ++ news, r.c.2) ∧ FRow w' r' ∧ w.grownBy w' r.g ∧ (r'.g = r.g ∨ r'.g = some w.heap.size) := by
  obtain ⟨i0, h2, h3, h4, h5⟩ := info_parts infoU8
  obtain ⟨rfl, hcap, hnone, hsrc⟩ := hB
  cases B with
  | some ad =>
    obtain ⟨v', w', hr, hown', hgr, _, hat⟩ := run_append_own_at (P := Try.prog) w 0 26 ty 5 i0 (.int .u8 0) 1 1 Try.underlying26 h2 h3 h4 h5 rfl (by decide) r.sl r.c.1.length (byteCells r.c.1) h ad news.length c (byteCells news)
      (by rw [byteCells_length, Nat.mul_one]) (hsrc.cells ad rfl) (byteCells_one _) (by unfold maxLen; omega) (by omega) (Nat.zero_le _)
    rw [← byteCells_append] at hown'
    obtain ⟨r', rfl, hc, hrow⟩ := row_of_own hown' r.c.2 (List.length_append).symm
    rw [Raw.own] at hgr
    rw [Raw.own, Raw.own] at hat
    exact ⟨r', w', hr, hc, hrow, hgr, hat⟩
  | none =>
    obtain rfl : c = 0 := hnone rfl
    obtain rfl : news = [] := List.eq_nil_of_length_eq_zero (by omega)
    exact ⟨r, w, run_append_owned_none w 0 26 ty 5 i0 1 Try.underlying26 h2 r.sl r.c.1.length (byteCells r.c.1) h, by simp, h, ⟨rfl, rfl, rfl, Nat.le_refl _, fun _ _ _ => rfl⟩, .inl rfl⟩

theorem row_type {w : World} {r : Raw} (hr : FRow w r) {b : Nat} (hb : r.g = some b) : ∃ cs, w.heap[b]? = some (.cells cs 5 (0, 0)) := by
  rcases hr.2 with ⟨hv, _⟩ | ⟨g, cap, cur, hv, hbg, hg, _⟩
  · have := Raw.own r
    rw [hv, hb] at this
    cases this
  · have := Raw.own r
    rw [hv, hb] at this
    have e : g = b := by injection this
    subst e
    exact ⟨cur, hg⟩
/-- an append to a row, as the walk has it -/
theorem rowB {w : World} {r : Raw} (h : FRow w r) {B : Option Addr} {m c : Nat} {news : List UInt8} (hB : IsB w B m c news) (hsz : r.c.1.length + m ≤ 70368744177664) (A : Option Addr) (n cp : Nat) (hA : r.sl = .slice A n cp) (ty : TypeId) :
    ∃ v' w', (Builtin.append_ #[26, 26] ty #[.slice A n cp, .slice B m c]).run Try.prog w = .ok v' w' ∧ ∃ (g : Option Nat) (cap : Nat), v' = .slice (g.map fun b => ⟨b, 0, none⟩) (n + m) cap ∧ FRow w' ⟨g, cap, (r.c.1 ++ news, r.c.2)⟩ ∧ (g = r.g ∨ g = some w.heap.size) ∧ w.grownBy w' r.g := by
  obtain ⟨⟨g, cap, c'⟩, w', hr, hc, hrow, hg, hat⟩ := row_append h ty hB hsz
  rw [hA] at hr
  simp only at hc hat
  subst hc
  have hn : n = r.c.1.length := by
    unfold Raw.sl at hA
    simp at hA
    exact hA.2.1.symm
  refine ⟨_, w', hr, g, cap, by unfold Raw.sl; rw [List.length_append, hB.len, hn], hrow, hat, hg⟩

theorem set_blk {w : World} {g : Nat} {t : TypeId} {cs : Array Value} (h : w.heap[g]? = some (.cells cs t (0, 0))) (i : Nat) (u : Value) : (w.setCell ⟨g, i, none⟩ u).heap[g]? = some (.cells (cs.setIfInBounds i u) t (0, 0)) := by
  simp [World.setCell, Array.getElem?_modify, h]
theorem free_of_row {w : World} {b : Nat} {cs : Array Value} {t : TypeId} (h : w.heap[b]? = some (.cells cs t (0, 0))) (i : Nat) : w.frozen? ⟨b, i, none⟩ = false := by
  simp [World.frozen?, h]
end Go.Proofs.Ytebpdlggkncliaa

/-
  A disk in memory: its files' rows, its map, its own block; what is kept while other blocks turn.
-/
set_option linter.unusedVariables false
namespace Go.Proofs.Ytebpdlggkncliaa
open Go.RowKit
open Go.Lib (byteCells byteCells_length byteCells_append)

theorem Away.of_turned {w w1 : World} {b : Nat} (h : w.mapTurned w1 b) : Away (fun x => x = b) w w1 :=
  (Away.of_grown h.grown).mono fun x _ e => by injection e with e; exact e.symm
/-- the files in memory -/
structure DkR (w : World) (mb : Nat) (ms : List (Nm × Raw)) : Prop where
  own : w.ownsMap Try.prog 9 asIs mb ms.length (dmap (amap Raw.val ms))
  rise : Rising ms
  rows : ∀ p ∈ ms, FRow w p.2
  apart : ms.Pairwise fun p q => ∀ b, p.2.g = some b → q.2.g ≠ some b
/-- the files' blocks -/
def FootR (mb : Nat) (ms : List (Nm × Raw)) (b : Nat) : Prop := b = mb ∨ ∃ p ∈ ms, p.2.g = some b
theorem DkR.lt {w : World} {mb : Nat} {ms : List (Nm × Raw)} (h : DkR w mb ms) {b : Nat} (hb : FootR mb ms b) : b < w.heap.size := by
  rcases hb with rfl | ⟨p, hp, hg⟩
  · exact h.own.lt
  · exact (h.rows p hp).lt hg
theorem DkR.away {F : Nat → Prop} {w w' : World} {mb : Nat} {ms : List (Nm × Raw)} (h : DkR w mb ms) (ha : Away F w w') (hf : ∀ b, FootR mb ms b → ¬ F b) : DkR w' mb ms := by
  refine ⟨?_, h.rise, fun p hp => (h.rows p hp).away ha fun b hb => hf b (.inr ⟨p, hp, hb⟩), h.apart⟩
  obtain ⟨es, clock, hb, F', hs, hD⟩ := h.own
  exact ⟨es, clock, (ha.block mb h.own.lt (hf mb (.inl rfl))).trans hb, F', hs, hD⟩
/-- what two names' rows are -/
theorem DkR.two {w : World} {mb : Nat} {ms : List (Nm × Raw)} (h : DkR w mb ms) {p q : Nm × Raw} (hp : p ∈ ms) (hq : q ∈ ms) (hne : p.1 ≠ q.1) {b : Nat} (hb : p.2.g = some b) : q.2.g ≠ some b := by
  intro hqb
  rcases List.mem_iff_getElem.1 hp with ⟨i, hi, ei⟩
  rcases List.mem_iff_getElem.1 hq with ⟨j, hj, ej⟩
  rcases Nat.lt_trichotomy i j with hij | hij | hij
  · exact List.pairwise_iff_getElem.1 h.apart i j hi hj hij b (by rw [ei]; exact hb) (by rw [ej]; exact hqb)
  · subst hij
    rw [ei] at ej
    exact hne (by rw [ej])
  · exact List.pairwise_iff_getElem.1 h.apart j i hj hi hij b (by rw [ej]; exact hqb) (by rw [ei]; exact hb)

/-- the disk's own block -/
def cellsD (most used : Nat) (mb : Nat) (armed : Bool) (lv : Int) (down : Bool) : Array Value :=
  #[.int .i64 (most : Int), .int .i64 (used : Int), .map (some mb), .bool armed, .int .i64 lv, .bool down]
def usedR (ms : List (Nm × Raw)) : Nat := asum (fun r : Raw => r.c.1.length) ms
/-- a disk in memory, with all of its parts -/
structure DkP (w : World) (a mb : Nat) (ms : List (Nm × Raw)) (most : Nat) (armed : Bool) (lv : Int) (down : Bool) : Prop where
  blk : w.heap[a]? = some (.cells (cellsD most (usedR ms) mb armed lv down) 90 (0, 0))
  files : DkR w mb ms
theorem DkP.away {F : Nat → Prop} {w w' : World} {a mb : Nat} {ms : List (Nm × Raw)} {most : Nat} {armed : Bool} {lv : Int} {down : Bool} (h : DkP w a mb ms most armed lv down) (ha : Away F w w')
    (h1 : ¬ F a) (hf : ∀ b, FootR mb ms b → ¬ F b) : DkP w' a mb ms most armed lv down :=
  ⟨(ha.block a (Array.getElem?_eq_some_iff.1 h.blk).1 h1).trans h.blk, h.files.away ha hf⟩
theorem DkP.ne_map {w : World} {a mb : Nat} {ms : List (Nm × Raw)} {most : Nat} {armed : Bool} {lv : Int} {down : Bool} (h : DkP w a mb ms most armed lv down) : mb ≠ a := by
  rintro rfl
  obtain ⟨es, clock, hb, _⟩ := h.files.own
  have := h.blk
  rw [hb] at this
  cases this
theorem DkP.ne_row {w : World} {a mb : Nat} {ms : List (Nm × Raw)} {most : Nat} {armed : Bool} {lv : Int} {down : Bool} (h : DkP w a mb ms most armed lv down) {r : Raw} (hr : FRow w r) {b : Nat} (hb : r.g = some b) : b ≠ a ∧ b ≠ mb := by
  rcases hr.2 with ⟨hv, _⟩ | ⟨g, cap, cur, hv, hbg, hg, _⟩
  · have := Raw.own r
    rw [hv, hb] at this
    cases this
  · have := Raw.own r
    rw [hv, hb] at this
    have e : g = b := by injection this
    subst e
    refine ⟨?_, ?_⟩
    · rintro rfl
      have := h.blk
      rw [hg] at this
      simp at this
    · rintro rfl
      obtain ⟨es, clock, hm, _⟩ := h.files.own
      rw [hg] at hm
      cases hm
theorem DkP.lt {w : World} {a mb : Nat} {ms : List (Nm × Raw)} {most : Nat} {armed : Bool} {lv : Int} {down : Bool} (h : DkP w a mb ms most armed lv down) : a < w.heap.size := (Array.getElem?_eq_some_iff.1 h.blk).1
/-- a disk in memory, but for the row of the one file whose bytes are about to be put -/
structure DkQ (w : World) (a mb : Nat) (nm : Nm) (ms : List (Nm × Raw)) (most : Nat) (armed : Bool) (lv : Int) (down : Bool) : Prop where
  blk : w.heap[a]? = some (.cells (cellsD most (usedR ms) mb armed lv down) 90 (0, 0))
  own : w.ownsMap Try.prog 9 asIs mb ms.length (dmap (amap Raw.val ms))
  rise : Rising ms
  rows : ∀ p ∈ ms, p.1 ≠ nm → FRow w p.2
  apart : ∀ p ∈ ms, ∀ q ∈ ms, p.1 ≠ nm → q.1 ≠ nm → p.1 ≠ q.1 → ∀ b, p.2.g = some b → q.2.g ≠ some b
theorem DkP.q {w : World} {a mb : Nat} {ms : List (Nm × Raw)} {most : Nat} {armed : Bool} {lv : Int} {down : Bool} (h : DkP w a mb ms most armed lv down) (nm : Nm) : DkQ w a mb nm ms most armed lv down :=
  ⟨h.blk, h.files.own, h.files.rise, fun p hp _ => h.files.rows p hp, fun p hp q hq _ _ hne _ hb => h.files.two hp hq hne hb⟩
def FootQ (mb : Nat) (nm : Nm) (ms : List (Nm × Raw)) (b : Nat) : Prop := b = mb ∨ ∃ p ∈ ms, p.1 ≠ nm ∧ p.2.g = some b
theorem DkQ.lt {w : World} {a mb : Nat} {nm : Nm} {ms : List (Nm × Raw)} {most : Nat} {armed : Bool} {lv : Int} {down : Bool} (h : DkQ w a mb nm ms most armed lv down) : a < w.heap.size := (Array.getElem?_eq_some_iff.1 h.blk).1
theorem DkQ.ltF {w : World} {a mb : Nat} {nm : Nm} {ms : List (Nm × Raw)} {most : Nat} {armed : Bool} {lv : Int} {down : Bool} (h : DkQ w a mb nm ms most armed lv down) {b : Nat} (hb : FootQ mb nm ms b) : b < w.heap.size := by
  rcases hb with rfl | ⟨p, hp, hn, hg⟩
  · exact h.own.lt
  · exact (h.rows p hp hn).lt hg
theorem own_away {F : Nat → Prop} {w w' : World} {mb : Nat} {l : List (Nm × Value)} (h : w.ownsMap Try.prog 9 asIs mb l.length (dmap l)) (ha : Away F w w') (hf : ¬ F mb) : w'.ownsMap Try.prog 9 asIs mb l.length (dmap l) := by
  have hlt := h.lt
  obtain ⟨es, clock, hb, F', hs, hD⟩ := h
  exact ⟨es, clock, (ha.block mb hlt hf).trans hb, F', hs, hD⟩
theorem DkQ.away {F : Nat → Prop} {w w' : World} {a mb : Nat} {nm : Nm} {ms : List (Nm × Raw)} {most : Nat} {armed : Bool} {lv : Int} {down : Bool} (h : DkQ w a mb nm ms most armed lv down) (ha : Away F w w')
    (h1 : ¬ F a) (hf : ∀ b, FootQ mb nm ms b → ¬ F b) : DkQ w' a mb nm ms most armed lv down := by
  refine ⟨(ha.block a h.lt h1).trans h.blk, ?_, h.rise, fun p hp hn => (h.rows p hp hn).away ha fun b hb => hf b (.inr ⟨p, hp, hn, hb⟩), h.apart⟩
  have := own_away (l := amap Raw.val ms) (by simpa [amap] using h.own) ha (hf mb (.inl rfl))
  simpa [amap] using this
theorem own_ne_row {w : World} {P : Program} {k : TypeId} {R : Value → Option (DataW Value × List MemPlace)} {mb n : Nat} {D : DataW Value} (h : w.ownsMap P k R mb n D) {r : Raw} (hr : FRow w r) {b : Nat} (hb : r.g = some b) : b ≠ mb := by
  rcases hr.2 with ⟨hv, _⟩ | ⟨g, cap, cur, hv, hbg, hg, _⟩
  · have := Raw.own r
    rw [hv, hb] at this
    cases this
  · have := Raw.own r
    rw [hv, hb] at this
    have e : g = b := by injection this
    subst e
    rintro rfl
    obtain ⟨es, clock, hm, _⟩ := h
    rw [hg] at hm
    cases hm
theorem DkQ.ne_map {w : World} {a mb : Nat} {nm : Nm} {ms : List (Nm × Raw)} {most : Nat} {armed : Bool} {lv : Int} {down : Bool} (h : DkQ w a mb nm ms most armed lv down) : mb ≠ a := by
  rintro rfl
  obtain ⟨es, clock, hb, _⟩ := h.own
  have := h.blk
  rw [hb] at this
  cases this
theorem DkQ.ne_row {w : World} {a mb : Nat} {nm : Nm} {ms : List (Nm × Raw)} {most : Nat} {armed : Bool} {lv : Int} {down : Bool} (h : DkQ w a mb nm ms most armed lv down) {r : Raw} (hr : FRow w r) {b : Nat} (hb : r.g = some b) : b ≠ a ∧ b ≠ mb := by
  refine ⟨?_, own_ne_row h.own hr hb⟩
  rintro rfl
  obtain ⟨cs, hc⟩ := row_type hr hb
  have := h.blk
  rw [hc] at this
  simp at this
/-- a block of another type is none of the disk's -/
theorem DkP.other {w : World} {a mb : Nat} {ms : List (Nm × Raw)} {most : Nat} {armed : Bool} {lv : Int} {down : Bool} (h : DkP w a mb ms most armed lv down) {x : Nat} {cs : Array Value} {t : TypeId} {fr : Nat × Nat} (hx : w.heap[x]? = some (.cells cs t fr))
    (h1 : t ≠ 90) (h2 : t ≠ 5) : ¬ (x = a ∨ FootR mb ms x) := by
  rintro (rfl | rfl | ⟨p, hp, hg⟩)
  · have := h.blk
    rw [hx] at this
    simp at this
    exact h1 this.2.1
  · obtain ⟨es, clock, hm, _⟩ := h.files.own
    rw [hx] at hm
    cases hm
  · obtain ⟨cs', hc⟩ := row_type (h.files.rows p hp) hg
    rw [hx] at hc
    simp at hc
    exact h2 hc.2.1
theorem DkQ.other {w : World} {a mb : Nat} {nm : Nm} {ms : List (Nm × Raw)} {most : Nat} {armed : Bool} {lv : Int} {down : Bool} (h : DkQ w a mb nm ms most armed lv down) {x : Nat} {cs : Array Value} {t : TypeId} {fr : Nat × Nat} (hx : w.heap[x]? = some (.cells cs t fr))
    (h1 : t ≠ 90) (h2 : t ≠ 5) : x ≠ a ∧ ¬ FootQ mb nm ms x := by
  refine ⟨?_, ?_⟩
  · rintro rfl
    have := h.blk
    rw [hx] at this
    simp at this
    exact h1 this.2.1
  · rintro (rfl | ⟨p, hp, hn, hg⟩)
    · obtain ⟨es, clock, hm, _⟩ := h.own
      rw [hx] at hm
      cases hm
    · obtain ⟨cs', hc⟩ := row_type (h.rows p hp hn) hg
      rw [hx] at hc
      simp at hc
      exact h2 hc.2.1
/-- its blocks -/
def Foot (a mb : Nat) (ms : List (Nm × Raw)) (b : Nat) : Prop := b = a ∨ FootR mb ms b

/-- a disk in memory, within the blocks F, as the document has it -/
def Dk (w : World) (F : Nat → Prop) (a : Nat) (s : St) : Prop :=
  s.wf ∧ (∀ b, F b → b < w.heap.size) ∧ ∃ mb ms lv, DkP w a mb ms s.most s.left.isSome lv s.down ∧ (∀ n, s.left = some n → lv = (n : Int)) ∧ s.fs = amap Raw.c ms ∧ ∀ b, Foot a mb ms b → F b
theorem Dk.away {F F' : Nat → Prop} {w w' : World} {a : Nat} {s : St} (h : Dk w F a s) (ha : Away F' w w') (hf : ∀ b, F b → ¬ F' b) : Dk w' F a s := by
  obtain ⟨hw, hl, mb, ms, lv, hp, hlv, hfs, hfoot⟩ := h
  exact ⟨hw, fun b hb => Nat.lt_of_lt_of_le (hl b hb) ha.size, mb, ms, lv, hp.away ha (hf _ (hfoot _ (.inl rfl))) fun b hb => hf b (hfoot b (.inr hb)), hlv, hfs, hfoot⟩
theorem Dk.below {F : Nat → Prop} {w w' : World} {a : Nat} {s : St} (h : Dk w F a s) (hb : Below w.heap.size w w') : Dk w' F a s :=
  h.away (Away.of_below hb) fun b hF => by have := h.2.1 b hF; omega
theorem Dk.drew {F : Nat → Prop} {w : World} {a : Nat} {s : St} (h : Dk w F a s) : Dk w.drew F a s := h.below ((Below.refl _ w).drew)
/-- behind a call on it: within its own blocks and new ones -/
def Turned (w : World) (F : Nat → Prop) (a : Nat) (w' : World) (s : St) : Prop :=
  ∃ F', Dk w' F' a s ∧ Away F w w' ∧ ∀ b, F' b → F b ∨ w.heap.size ≤ b
theorem Turned.mk' {w w' : World} {F : Nat → Prop} {a : Nat} {s : St} (hw : s.wf) (ha : Away F w w') {mb : Nat} {ms : List (Nm × Raw)} {lv : Int} (hp : DkP w' a mb ms s.most s.left.isSome lv s.down) (hlv : ∀ n, s.left = some n → lv = (n : Int))
    (hfs : s.fs = amap Raw.c ms) (hfoot : ∀ b, Foot a mb ms b → F b ∨ w.heap.size ≤ b) : Turned w F a w' s :=
  ⟨fun b => (F b ∨ w.heap.size ≤ b) ∧ b < w'.heap.size, ⟨hw, fun b hb => hb.2, mb, ms, lv, hp, hlv, hfs, fun b hb => ⟨hfoot b hb, by rcases hb with rfl | hb; exact hp.lt; exact hp.files.lt hb⟩⟩, ha, fun b hb => hb.1⟩
end Go.Proofs.Ytebpdlggkncliaa

/-
  Plain facts on numbers, without the program: the fold of signed numbers, varints and what is read of them, halving and the sum's register.
-/
namespace Go.Proofs.Ytebpdlggkncliaa
open Go.RowKit

theorem fold_eq (n : Int) (h0 : -9223372036854775808 ≤ n) (h1 : n ≤ 9223372036854775807) :
    bits .xor .u64 (IntKind.u64.wrap (IntKind.u64.wrap n * 2)) (IntKind.u64.wrap (n / 9223372036854775808)) = ((Lib.zigzag n : Nat) : Int) := by
  by_cases hn : 0 ≤ n
  · have e1 : IntKind.u64.wrap (IntKind.u64.wrap n * 2) = (((2 * n).toNat : Nat) : Int) := by
      rw [IntKind.wrap_u64, IntKind.wrap_u64]; omega
    have e2 : IntKind.u64.wrap (n / 9223372036854775808) = ((0 : Nat) : Int) := by
      rw [IntKind.wrap_u64]; omega
    rw [e1, e2, bits_xor_u64_nat _ _ (by omega) (by decide), Nat.xor_zero]
    unfold Lib.zigzag
    rw [if_pos hn]
  · have e1 : IntKind.u64.wrap (IntKind.u64.wrap n * 2) = (((2 * n + 18446744073709551616).toNat : Nat) : Int) := by
      rw [IntKind.wrap_u64, IntKind.wrap_u64]; omega
    have e2 : IntKind.u64.wrap (n / 9223372036854775808) = ((2 ^ 64 - 1 : Nat) : Int) := by
      rw [IntKind.wrap_u64]; omega
    rw [e1, e2, bits_xor_u64_nat _ _ (by omega) (by decide), Nat.xor_comm, Lib.xor_ones64 _ (by omega)]
    unfold Lib.zigzag
    rw [if_neg hn]
    omega

theorem xor_i64_comm (a b : Int) : bits .xor .i64 a b = bits .xor .i64 b a := by
  show IntKind.i64.wrap ((BitVec.ofInt 64 a ^^^ BitVec.ofInt 64 b).toNat : Int) = IntKind.i64.wrap ((BitVec.ofInt 64 b ^^^ BitVec.ofInt 64 a).toNat : Int)
  rw [BitVec.xor_comm]

theorem xor_i64_zero (x : Nat) (hx : x < 9223372036854775808) : bits .xor .i64 (x : Int) 0 = (x : Int) := by
  show IntKind.i64.wrap ((BitVec.ofInt 64 (x : Int) ^^^ BitVec.ofInt 64 0).toNat : Int) = _
  have h2 : (BitVec.ofInt 64 (x : Int)).toNat = x := by
    rw [BitVec.ofInt_natCast, BitVec.toNat_ofNat]; exact Nat.mod_eq_of_lt (by omega)
  have h1 : (BitVec.ofInt 64 0).toNat = 0 := by decide
  rw [BitVec.toNat_xor, h1, h2, Nat.xor_zero, IntKind.wrap_i64]
  omega

theorem unfold_eq (u : Nat) (h1 : u < 18446744073709551616) :
    bits .xor .i64 ((u : Int) / 2) (wrap64 (-wrap64 (bits .and .u64 (u : Int) 1))) = Lib.unzigzag u := by
  rw [Lib.u64_and1 _ (by omega) (by omega)]
  unfold Lib.unzigzag
  by_cases hu : u % 2 = 0
  · rw [if_pos hu, show ((u : Int) % 2) = 0 by omega]
    have : wrap64 (-wrap64 0) = 0 := by unfold wrap64; omega
    rw [this]
    exact xor_i64_zero (u / 2) (by omega)
  · rw [if_neg hu, show ((u : Int) % 2) = 1 by omega]
    have : wrap64 (-wrap64 1) = -1 := by unfold wrap64; omega
    rw [this, xor_i64_comm]
    exact Lib.i64_not (u / 2) (by omega)

theorem unzigzag_zigzag (n : Int) : Lib.unzigzag (Lib.zigzag n) = n := by
  unfold Lib.unzigzag Lib.zigzag
  split <;> split <;> omega
theorem zigzag_unzigzag (u : Nat) : Lib.zigzag (Lib.unzigzag u) = u := by
  unfold Lib.unzigzag Lib.zigzag
  split <;> split <;> omega

/- ## Halving, and the sum's register -/
def halve (u : Nat) : Nat := if u % 2 = 1 then u / 2 ^^^ 3988292384 else u / 2
theorem halve_lt {u : Nat} (h : u < 4294967296) : halve u < 4294967296 := by
  unfold halve
  split
  · exact Nat.xor_lt_two_pow (n := 32) (by omega) (by omega)
  · omega
theorem halve_int (u : Nat) (h : u < 4294967296) : (if (u : Int) % 2 = 1 then bits .xor .u32 ((u : Int) / 2) 3988292384 else (u : Int) / 2) = ((halve u : Nat) : Int) := by
  unfold halve
  by_cases hu : u % 2 = 1
  · rw [if_pos hu, if_pos (by omega)]
    exact u32_xor_nat (u / 2) 3988292384 (by omega) (by omega)
  · rw [if_neg hu, if_neg (by omega)]
    omega

/-- halved k times -/
def halveN : Nat → Nat → Nat
  | 0, u => u
  | k + 1, u => halveN k (halve u)
theorem halveN_lt : ∀ (k : Nat) {u : Nat}, u < 4294967296 → halveN k u < 4294967296
  | 0, _, h => h
  | k + 1, _, h => halveN_lt k (halve_lt h)
theorem halveN_succ (k u : Nat) : halveN (k + 1) u = halve (halveN k u) := by
  induction k generalizing u with
  | zero => rfl
  | succ k ih => exact ih (halve u)
theorem halveN_add (j k u : Nat) : halveN (j + k) u = halveN j (halveN k u) := by
  induction k generalizing u with
  | zero => rfl
  | succ k ih => exact ih (halve u)

theorem half_xor (a b : Nat) : (a ^^^ b) / 2 = a / 2 ^^^ b / 2 := by
  have := Nat.xor_div_two (a := a) (b := b)
  exact this
theorem odd_xor (a b : Nat) : (a ^^^ b) % 2 = (a + b) % 2 := by
  have h := @Nat.xor_mod_two_eq_one a b
  omega
theorem eq_of_xor_zero {a b : Nat} (h : a ^^^ b = 0) : a = b := by
  have e : (a ^^^ b) ^^^ b = a := by rw [Nat.xor_assoc, Nat.xor_self, Nat.xor_zero]
  rw [h, Nat.zero_xor] at e
  exact e.symm
theorem halve_xor (a b : Nat) : halve (a ^^^ b) = halve a ^^^ halve b := by
  unfold halve
  rw [half_xor, odd_xor]
  rcases Nat.mod_two_eq_zero_or_one a with ha | ha <;> rcases Nat.mod_two_eq_zero_or_one b with hb | hb
  · rw [if_neg (by omega), if_neg (by omega), if_neg (by omega)]
  · rw [if_pos (by omega), if_neg (by omega), if_pos (by omega), Nat.xor_assoc]
  · rw [if_pos (by omega), if_pos (by omega), if_neg (by omega), Nat.xor_assoc, Nat.xor_assoc, Nat.xor_comm 3988292384]
  · rw [if_neg (by omega), if_pos (by omega), if_pos (by omega), Nat.xor_assoc, ← Nat.xor_assoc 3988292384, Nat.xor_comm 3988292384, Nat.xor_assoc, Nat.xor_self, Nat.xor_zero]
theorem halveN_xor (k : Nat) (a b : Nat) : halveN k (a ^^^ b) = halveN k a ^^^ halveN k b := by
  induction k generalizing a b with
  | zero => rfl
  | succ k ih => rw [halveN, halve_xor, ih]; rfl
theorem halve_zero : halve 0 = 0 := rfl
theorem halveN_zero (k : Nat) : halveN k 0 = 0 := by
  induction k with
  | zero => rfl
  | succ k ih => exact ih
/-- what is halved to nothing is nothing -/
theorem halve_eq_zero {u : Nat} (h : u < 4294967296) (h0 : halve u = 0) : u = 0 := by
  unfold halve at h0
  split at h0
  · have e : u / 2 = 3988292384 := eq_of_xor_zero h0
    omega
  · omega
theorem halveN_eq_zero : ∀ (k : Nat) {u : Nat}, u < 4294967296 → halveN k u = 0 → u = 0
  | 0, _, _, h => h
  | k + 1, _, hu, h => halve_eq_zero hu (halveN_eq_zero k (halve_lt hu) h)

/-- one byte into the register -/
def crcStep (r x : Nat) : Nat := halveN 8 (r ^^^ x)
theorem crcStep_lt {r x : Nat} (h : r < 4294967296) (hx : x < 256) : crcStep r x < 4294967296 :=
  halveN_lt 8 (Nat.xor_lt_two_pow (n := 32) (by omega) (by omega))
def crcReg (r : Nat) : List UInt8 → Nat
  | [] => r
  | x :: l => crcReg (crcStep r x.toNat) l
theorem crcReg_lt : ∀ (l : List UInt8) {r : Nat}, r < 4294967296 → crcReg r l < 4294967296
  | [], _, h => h
  | x :: l, _, h => crcReg_lt l (crcStep_lt h (x.toNat_lt))
theorem crcReg_append (l m : List UInt8) (r : Nat) : crcReg r (l ++ m) = crcReg (crcReg r l) m := by
  induction l generalizing r with
  | nil => rfl
  | cons x l ih => exact ih _
/-- the sum -/
def crc (l : List UInt8) : Nat := 4294967295 - crcReg 4294967295 l
theorem crc_lt (l : List UInt8) : crc l < 4294967296 := by unfold crc; omega

/-- what the low four bits are halved to -/
theorem halve4 (s : Nat) : halveN 4 s = s / 16 ^^^ halveN 4 (s % 16) := by
  have key : ∀ q : Nat, halveN 4 (q * 16) = q := by
    intro q
    have e : ∀ m : Nat, halve (m * 2) = m := by
      intro m
      unfold halve
      rw [if_neg (by omega)]
      omega
    show halve (halve (halve (halve (q * 16)))) = q
    rw [show q * 16 = q * 2 * 2 * 2 * 2 by omega, e, e, e, e]
  have hs : s = s / 16 * 16 ^^^ s % 16 := by
    have h := Nat.two_pow_add_eq_or_of_lt (i := 4) (b := s % 16) (by omega) (s / 16)
    have h2 : 2 ^ 4 * (s / 16) + s % 16 = s := by omega
    apply Nat.eq_of_testBit_eq
    intro i
    rw [Nat.testBit_xor]
    have hm : (s % 16).testBit i = (decide (i < 4) && s.testBit i) := by
      have := Nat.testBit_mod_two_pow s 4 i
      simpa using this
    have hd : (s / 16 * 16).testBit i = (decide (4 ≤ i) && s.testBit i) := by
      have h3 : s / 16 * 16 = (s >>> 4) <<< 4 := by rw [Nat.shiftLeft_eq, Nat.shiftRight_eq_div_pow]
      rw [h3, Nat.testBit_shiftLeft, Nat.testBit_shiftRight]
      by_cases h4 : 4 ≤ i
      · simp [h4, show 4 + (i - 4) = i by omega]
      · simp [h4]
    rw [hm, hd]
    by_cases h4 : i < 4
    · simp [h4, show ¬ 4 ≤ i by omega]
    · simp [h4, show 4 ≤ i by omega]
  conv => lhs; rw [hs]
  rw [halveN_xor, key]
end Go.Proofs.Ytebpdlggkncliaa

/-
  Walks of the small functions of package bytes: Clip, fold, unfold, mayStand, halve. Each says what the function answers, for every argument in its kind's range, in every world.
-/
namespace Go.Proofs.Ytebpdlggkncliaa
open Go.RowKit

theorem clip_any (A : Option Addr) (n c : Nat) (w : World) (hn : n ≤ c) :
    Calls Try.prog 103 #[.slice A n c] w fun e w' => e = .returned (.slice A n n) ∧ w = w' := by
  go_enter Try.func103, Try.ntmps103
  go_wp2
  go_ret
  exact ⟨rfl, rfl⟩

theorem fold_any (n : Int) (w : World) (h0 : -9223372036854775808 ≤ n) (h1 : n ≤ 9223372036854775807) :
    Calls Try.prog 157 #[.int .i64 n] w fun e w' => e = .returned (.int .u64 (Lib.zigzag n : Int)) ∧ w = w' := by
  rw [← fold_eq n h0 h1]
  go_enter Try.func157, Try.ntmps157
  go_wp2
  go_ret
  exact ⟨rfl, rfl⟩

theorem unfold_any (u : Nat) (w : World) (h1 : u < 18446744073709551616) :
    Calls Try.prog 129 #[.int .u64 (u : Int)] w fun e w' => e = .returned (.int .i64 (Lib.unzigzag u)) ∧ w = w' := by
  rw [← unfold_eq u h1]
  go_enter Try.func129, Try.ntmps129
  go_wp2
  go_ret
  exact ⟨rfl, rfl⟩

theorem halve_any (u : Nat) (w : World) (h1 : u < 4294967296) :
    Calls Try.prog 170 #[.int .u32 (u : Int)] w fun e w' => e = .returned (.int .u32 (halve u : Int)) ∧ w = w' := by
  have e1 : bits .and .u32 (u : Int) 1 = ((u % 2 : Nat) : Int) := by
    rw [show (1 : Int) = ((1 : Nat) : Int) by rfl, u32_and_nat _ _ h1 (by omega), nat_mask1]
  by_cases hu : u % 2 = 1
  · have hb : (bits .and .u32 (u : Int) 1 == 1) = true := by rw [e1, hu]; rfl
    have hq : (halve u : Int) = bits .xor .u32 ((u : Int) / 2) 3988292384 := by rw [← halve_int u h1, if_pos (by omega)]
    rw [hq]
    clear hq e1 hu
    go_enter Try.func170, Try.ntmps170
    go_wp2
    go_ret
    exact ⟨rfl, rfl⟩
  · have hb : (bits .and .u32 (u : Int) 1 == 1) = false := by rw [e1, show u % 2 = 0 by omega]; rfl
    have hq : (halve u : Int) = (u : Int) / 2 := by rw [← halve_int u h1, if_neg (by omega)]
    rw [hq]
    clear hq e1 hu
    go_enter Try.func170, Try.ntmps170
    go_wp2
    go_ret
    exact ⟨rfl, rfl⟩

/-- may the byte x stand at the place i of a number? -/
def mayB (x i : Nat) : Bool := if x = 0 then decide (i = 0) else decide (i < 9) || decide (x = 1)
theorem mayStand_any (x i : Nat) (w : World) (h1 : x < 256) (h3 : i < 10) :
    Calls Try.prog 132 #[.int .u8 (x : Int), .int .i64 (i : Int)] w fun e w' => e = .returned (.bool (mayB x i)) ∧ w = w' := by
  by_cases hx : x = 0
  · subst hx
    have hq : mayB 0 i = ((i : Int) == 0) := by
      unfold mayB
      rw [if_pos rfl]
      by_cases h : i = 0
      · subst h; rfl
      · rw [decide_eq_false h, beq_eq_false_iff_ne.2 (by omega)]
    rw [hq]
    clear hq
    go_enter Try.func132, Try.ntmps132
    go_wp2
    go_ret
    exact ⟨rfl, rfl⟩
  · have hb : ((x : Int) == 0) = false := beq_eq_false_iff_ne.2 (by omega)
    by_cases hi : i < 9
    · have hq : mayB x i = true := by
        unfold mayB
        rw [if_neg hx, decide_eq_true hi, Bool.true_or]
      rw [hq]
      clear hq
      go_enter Try.func132, Try.ntmps132
      go_wp2
      go_ret
      exact ⟨rfl, rfl⟩
    · obtain rfl : i = 9 := by omega
      have hq : mayB x 9 = ((x : Int) == 1) := by
        unfold mayB
        rw [if_neg hx, decide_eq_false hi, Bool.false_or]
        by_cases h : x = 1
        · subst h; rfl
        · rw [decide_eq_false h, beq_eq_false_iff_ne.2 (by omega)]
      rw [hq]
      clear hq
      go_enter Try.func132, Try.ntmps132
      go_wp2
      go_ret
      exact ⟨rfl, rfl⟩
end Go.Proofs.Ytebpdlggkncliaa

/-
  The disk's leaves: its map's operations; mayStand, right, made, ready.
-/
set_option linter.unusedVariables false
set_option linter.unusedSimpArgs false
namespace Go.Proofs.Ytebpdlggkncliaa
open Go.RowKit Go.Maps

theorem strK : Keyed Try.prog 9 := string_keyed Try.underlying9
theorem zeroFile (w : World) : (zeroValue 94).run Try.prog w = .ok Raw.zero.val w := by kernel_rfl
theorem own_tight {w : World} {P : Program} {k : TypeId} {b n : Nat} {l : List (Nm × Value)} (h : w.ownsMap P k asIs b n (dmap l)) : w.ownsMap P k asIs b l.length (dmap l) := by
  obtain ⟨es, clock, hb, F, hs, hD⟩ := h
  refine ⟨es, clock, hb, F, ?_, hD⟩
  have h1 := congrArg Maps.size hD
  rw [dmap_size, Maps.size_eq, length_sorted, List.length_map] at h1
  simp at h1
  omega
def atR (ms : List (Nm × Raw)) (nm : Nm) : Raw := (aget nm ms).getD Raw.zero
theorem key_of {s : ByteArray} (hs : s.size ≤ maxLen) : keyOf Try.prog 9 (.string s) = some (.string s.data.toList) := WideMaps.keyOf_string_mk Try.underlying9 hs
theorem at_val (ms : List (Nm × Raw)) (nm : Nm) : (aget nm (amap Raw.val ms)).getD Raw.zero.val = (atR ms nm).val := by
  rw [aget_amap]
  unfold atR
  cases aget nm ms <;> rfl
theorem look_run {w : World} {mb : Nat} {ms : List (Nm × Raw)} (h : w.ownsMap Try.prog 9 asIs mb ms.length (dmap (amap Raw.val ms))) {s : ByteArray} (hs : s.size ≤ maxLen) :
    (Instr.lookup 88 (.map (some mb)) (.string s) false).run Try.prog w = .ok (atR ms s.data.toList).val w := by
  obtain ⟨v, ps, hr, hv⟩ := h.lookup strK Try.underlying88 (zeroFile w) (zd := .held Raw.zero.val) (zp := []) rfl (key_of hs)
  rw [dmap_at, at_val] at hv
  unfold asIs at hv
  simp only [Option.some.injEq, Prod.mk.injEq, DataW.held.injEq] at hv
  rw [← hv.1]
  exact hr
theorem look_ok_run {w : World} {mb : Nat} {ms : List (Nm × Raw)} (h : DkR w mb ms) {s : ByteArray} (hs : s.size ≤ maxLen) :
    (Instr.lookup 88 (.map (some mb)) (.string s) true).run Try.prog w = .ok (.tuple #[(atR ms s.data.toList).val, .bool (aget s.data.toList ms).isSome]) w := by
  obtain ⟨v, ps, hr, hv⟩ := h.own.look_ok strK Try.underlying88 (zeroFile w) (zd := .held Raw.zero.val) (zp := []) rfl (key_of hs)
  rw [dmap_at, at_val] at hv
  unfold asIs at hv
  simp only [Option.some.injEq, Prod.mk.injEq, DataW.held.injEq] at hv
  rw [dmap_has, aget_amap, Option.isSome_map, hv.1] at hr
  exact hr
theorem len_run {w : World} {mb : Nat} {ms : List (Nm × Raw)} (h : DkR w mb ms) (ty : TypeId) :
    (Builtin.len_ #[88] ty #[.map (some mb)]).run Try.prog w = .ok (.int .i64 (ms.length : Int)) w := by
  have := h.own.len Try.underlying88 ty
  rw [dmap_size] at this
  simpa [amap] using this
theorem store_run {w : World} {mb : Nat} {ms : List (Nm × Raw)} (h : w.ownsMap Try.prog 9 asIs mb ms.length (dmap (amap Raw.val ms))) (hl : ms.length < maxLen) {s : ByteArray} (hs : s.size ≤ maxLen) (r : Raw) :
    ∃ w', (Instr.mapUpdate 88 (.map (some mb)) (.string s) r.val).run Try.prog w = .ok () w' ∧ w'.ownsMap Try.prog 9 asIs mb (aput s.data.toList r ms).length (dmap (amap Raw.val (aput s.data.toList r ms))) ∧ w.mapTurned w' mb := by
  obtain ⟨w', hr, ho, ht⟩ := h.store strK Try.underlying88 hl (key_of hs) (val := r.val) (d := .held r.val) (ps := []) rfl
  refine ⟨w', hr, ?_, ht⟩
  rw [dmap_put, ← amap_aput] at ho
  have := own_tight ho
  rwa [show (amap Raw.val (aput s.data.toList r ms)).length = (aput s.data.toList r ms).length by simp [amap]] at this
theorem drop_run {w : World} {mb : Nat} {ms : List (Nm × Raw)} (h : w.ownsMap Try.prog 9 asIs mb ms.length (dmap (amap Raw.val ms))) {s : ByteArray} (hs : s.size ≤ maxLen) (ty : TypeId) :
    ∃ w', (Builtin.delete_ #[88, 9] ty #[.map (some mb), .string s]).run Try.prog w = .ok (.tuple #[]) w' ∧ w'.ownsMap Try.prog 9 asIs mb (adel s.data.toList ms).length (dmap (amap Raw.val (adel s.data.toList ms))) ∧ w.mapTurned w' mb := by
  obtain ⟨w', hr, ho, ht⟩ := h.drop strK Try.underlying88 (key_of hs) ty
  refine ⟨w', hr, ?_, ht⟩
  rw [dmap_del, ← amap_adel] at ho
  have := own_tight ho
  rwa [show (amap Raw.val (adel s.data.toList ms)).length = (adel s.data.toList ms).length by simp [amap]] at this

/-! ### mayStand, right -/
theorem ret_bool {a b : Bool} (h : a = b) : Ending.returned (.bool a) = .returned (.bool b) := by rw [h]
set_option maxRecDepth 100000 in
set_option maxHeartbeats 1000000 in
theorem may_any (x : Nat) (hx : x < 256) (w : World) : Calls Try.prog 120 #[.int .u8 (x : Int)] w fun e w' =>
    e = .returned (.bool ((97 ≤ x && x ≤ 122) || (48 ≤ x && x ≤ 57) || x == 46 || x == 45)) ∧ w = w' := by
  go_enter Try.func120, Try.ntmps120
  go_wp2_with fail
  all_goals go_ret
  all_goals exact ⟨ret_bool (by rw [Bool.eq_iff_iff]; simp; omega), rfl⟩

theorem may_byte (u : UInt8) (w : World) : Calls Try.prog 120 #[.int .u8 (u.toNat : Int)] w fun e w' => e = .returned (.bool (mayC u)) ∧ w = w' :=
  may_any u.toNat u.toNat_lt w
theorem take_snoc' {α : Type} {l : List α} {k : Nat} {x : α} (h : l[k]? = some x) : l.take (k + 1) = l.take k ++ [x] := by
  obtain ⟨hl, e⟩ := List.getElem?_eq_some_iff.1 h
  rw [List.take_succ_eq_append_getElem hl, e]
set_option maxRecDepth 100000 in
set_option maxHeartbeats 1000000 in
theorem right_any (s : ByteArray) (hs : s.size ≤ maxLen) (w : World) : Calls Try.prog 62 #[.string s] w fun e w' => e = .returned (.bool (rightN s.data.toList)) ∧ w = w' := by
  unfold maxLen at hs
  have hl : s.data.toList.length = s.size := by simp
  by_cases h0 : s.size = 0
  · have hR : rightN s.data.toList = false := by unfold rightN; rw [hl, decide_eq_false (show ¬ 1 ≤ s.size by omega), Bool.false_and, Bool.false_and]
    rw [hR]
    clear hR hl
    go_enter Try.func62, Try.ntmps62
    go_wp2_with fail
    all_goals (go_ret; exact ⟨rfl, rfl⟩)
  · by_cases h4 : 40 < s.size
    · have hR : rightN s.data.toList = false := by unfold rightN; rw [hl, decide_eq_false (show ¬ s.size ≤ 40 by omega), Bool.and_false, Bool.false_and]
      rw [hR]
      have h1 : ((s.size : Int) == 0) = false := beq_eq_false_iff_ne.2 (by omega)
      clear hR hl
      go_enter Try.func62, Try.ntmps62
      go_wp2_with fail
      all_goals (go_ret; exact ⟨rfl, rfl⟩)
    · have HR : Hid (rightN s.data.toList = s.data.toList.all mayC) := by
        show _ = _
        unfold rightN
        rw [hl]
        have : (decide (1 ≤ s.size) && decide (s.size ≤ 40)) = true := by rw [decide_eq_true (show 1 ≤ s.size by omega), decide_eq_true (show s.size ≤ 40 by omega)]; rfl
        rw [this, Bool.true_and]
      have h1 : ((s.size : Int) == 0) = false := beq_eq_false_iff_ne.2 (by omega)
      have h5 : decide ((40 : Int) < (s.size : Int)) = false := decide_eq_false (by omega)
      clear hl
      go_enter Try.func62, Try.ntmps62
      go_wp2_with fail
      go_loop [14] (fun i => ∃ k : Nat, k ≤ s.size ∧ i = .int .i64 (k : Int) ∧ Hid ((s.data.toList.take k).all mayC = true)) (fun i => s.size - (intOf i).toNat)
      case atStart => exact ⟨0, Nat.zero_le _, rfl, rfl⟩
      case round =>
        obtain ⟨k, hk, rfl, hall⟩ := hrel
        by_cases hlt : k < s.size
        · have hx := s[k].toNat_lt
          have hk' : s.data.toList[k]? = some s[k] := by rw [List.getElem?_eq_getElem (by simpa using hlt)]; simp [ByteArray.getElem_eq_getElem_data]
          have HK := Lib.hid hk'
          clear hk'
          by_cases hb : mayC s[k] = true
          · go_wp2_with fail
            refine (may_byte s[k] w).mono ?_
            rintro e w' ⟨rfl, rfl⟩
            rw [hb]
            have HB := Lib.hid hb
            clear hb
            go_wp2_with fail
            go_round
            case rel => exact ⟨k + 1, by omega, by go_num, by show _ = _; rw [take_snoc' HK.out, List.all_append, hall.out]; simpa using HB.out⟩
            case measure => simp [intOf]; omega
          · have hb := Bool.eq_false_iff.2 hb
            have HF : Hid (rightN s.data.toList = false) := by
              show _ = _
              rw [HR.out, List.all_eq_false]
              exact ⟨_, List.mem_of_getElem? HK.out, by rw [hb]; simp⟩
            go_wp2_with fail
            refine (may_byte s[k] w).mono ?_
            rintro e w' ⟨rfl, rfl⟩
            rw [hb]
            go_wp2_with fail
            go_ret
            exact ⟨ret_bool HF.out.symm, rfl⟩
        · go_wp2_with fail
          go_ret
          refine ⟨ret_bool ?_, rfl⟩
          rw [HR.out, ← hall.out, List.take_of_length_le (by simp; omega)]
end Go.Proofs.Ytebpdlggkncliaa

/-
  The disk's own calls within: made, ready, put, drop.
-/
set_option linter.unusedVariables false
set_option linter.unusedSimpArgs false
namespace Go.Proofs.Ytebpdlggkncliaa
open Go.RowKit Go.Maps

theorem field0 (w : World) (A : Option Addr) (n c : Nat) (y : Value) : (Instr.field 94 (.agg #[.slice A n c, y]) 0).run Try.prog w = .ok (.slice A n c) w := by kernel_rfl
theorem field1 (w : World) (x : Value) (n : Int) : (Instr.field 94 (.agg #[x, .int .i64 n]) 1).run Try.prog w = .ok (.int .i64 n) w := by kernel_rfl
theorem wrap64_of {x : Int} (h0 : -9223372036854775808 ≤ x) (h1 : x ≤ 9223372036854775807) : wrap64 x = x := by unfold wrap64; omega
theorem apart_of {ms : List (Nm × Raw)} (hr : Rising ms) (h : ∀ p ∈ ms, ∀ q ∈ ms, p.1 ≠ q.1 → ∀ b, p.2.g = some b → q.2.g ≠ some b) : ms.Pairwise fun p q => ∀ b, p.2.g = some b → q.2.g ≠ some b :=
  List.Pairwise.imp_of_mem (fun hp hq hne => h _ hp _ hq hne) (rising_ne hr)
theorem DkR.ne_map {w : World} {mb : Nat} {ms : List (Nm × Raw)} (h : DkR w mb ms) {r : Raw} (hr : FRow w r) {b : Nat} (hb : r.g = some b) : b ≠ mb := by
  rcases hr.2 with ⟨hv, _⟩ | ⟨g, cap, cur, hv, hbg, hg, _⟩
  · have := Raw.own r
    rw [hv, hb] at this
    cases this
  · have := Raw.own r
    rw [hv, hb] at this
    have e : g = b := by injection this
    subst e
    rintro rfl
    obtain ⟨es, clock, hm, _⟩ := h.own
    rw [hg] at hm
    cases hm
theorem ret_i64 {a b : Int} (h : a = b) : Ending.returned (.int .i64 a) = .returned (.int .i64 b) := by rw [h]
section
variable {w : World} {a mb : Nat} {ms : List (Nm × Raw)} {most : Nat} {armed : Bool} {lv : Int} {down : Bool}
theorem DkP.cell (h : DkP w a mb ms most armed lv down) (i : Nat) : w.cell? ⟨a, i, none⟩ = (cellsD most (usedR ms) mb armed lv down)[i]? := cell_of_row w a i _ _ _ h.blk
theorem DkP.free (h : DkP w a mb ms most armed lv down) (i : Nat) : w.frozen? ⟨a, i, none⟩ = false := by
  simp [World.frozen?, h.blk]

set_option maxRecDepth 100000 in
theorem made_any (h : DkP w a mb ms most armed lv down) : Calls Try.prog 69 #[.pointer (some ⟨a, 0, none⟩)] w fun e w' => e = .returned (.bool true) ∧ w = w' := by
  have c2 : w.cell? ⟨a, 2, none⟩ = some (.map (some mb)) := h.cell 2
  have qn := fun (w : World) => run_neq_map_nil (P := Try.prog) w 88 _ _ (some mb) Try.underlying88
  go_enter Try.func69, Try.ntmps69
  go_wp2_with fail
  go_ret
  exact ⟨rfl, rfl⟩
set_option maxRecDepth 100000 in
theorem ready_any (h : DkP w a mb ms most armed lv down) : Calls Try.prog 61 #[.pointer (some ⟨a, 0, none⟩)] w fun e w' => e = .returned (.int .i64 (if down then 15 else 0)) ∧ w = w' := by
  have c5 : w.cell? ⟨a, 5, none⟩ = some (.bool down) := h.cell 5
  go_enter Try.func61, Try.ntmps61
  go_wp2_with fail
  refine (made_any h).mono ?_
  rintro e w' ⟨rfl, rfl⟩
  cases down
  · go_wp2_with fail
    go_ret
    exact ⟨rfl, rfl⟩
  · go_wp2_with fail
    go_ret
    exact ⟨rfl, rfl⟩
end

set_option maxRecDepth 100000 in
set_option maxHeartbeats 1000000 in
theorem put_any {w : World} {a mb : Nat} {ms : List (Nm × Raw)} {most : Nat} {armed : Bool} {lv : Int} {down : Bool} (s : ByteArray) (h : DkQ w a mb s.data.toList ms most armed lv down) (hs : s.size ≤ maxLen) (r : Raw) (hr : FRow w r)
    (hap : ∀ p ∈ ms, p.1 ≠ s.data.toList → ∀ b, r.g = some b → p.2.g ≠ some b) (hu : usedR ms ≤ 16777216) (hl : ms.length ≤ 1000) (hrl : r.c.1.length ≤ 16777216) :
    Calls Try.prog 65 #[.pointer (some ⟨a, 0, none⟩), .string s, r.val] w fun e w' =>
      e = .returned (.tuple #[]) ∧ DkP w' a mb (aput s.data.toList r ms) most armed lv down ∧ Away (fun b => b = a ∨ b = mb) w w' := by
  obtain ⟨g0, hg0⟩ : ∃ g0, w.heap.size = g0 := ⟨_, rfl⟩
  have hB := (Below.refl w.heap.size w).alloc (Nat.le_refl _) (.cells #[r.sl, .int .i64 (r.c.2 : Int)] 94)
  have hq := heap_alloc_new w (.cells #[r.sl, .int .i64 (r.c.2 : Int)] 94)
  rw [hg0] at hq
  have hal := h.lt
  rw [hg0] at hal
  have hfl : ∀ b, FootQ mb s.data.toList ms b → b < g0 := fun b hb => by rw [← hg0]; exact h.ltF hb
  have hrl' : ∀ b, r.g = some b → b < g0 := fun b hb => by rw [← hg0]; exact hr.lt hb
  have hA : Away (fun b => b = a ∨ b = mb) w (w.alloc (.cells #[r.sl, .int .i64 (r.c.2 : Int)] 94)) := Away.of_new hB _
  have h1 := h.away (Away.of_below hB) (by omega) fun b hb => by have := hfl b hb; omega
  have hr1 := hr.away (Away.of_below hB) fun b hb => by have := hrl' b hb; omega
  have hx0 : (w.alloc (.cells #[r.sl, .int .i64 (r.c.2 : Int)] 94)).cell? ⟨g0, 0, none⟩ = some r.sl := cell_of_row _ _ 0 _ _ _ hq
  have hx1 : (w.alloc (.cells #[r.sl, .int .i64 (r.c.2 : Int)] 94)).cell? ⟨g0, 1, none⟩ = some (.int .i64 (r.c.2 : Int)) := cell_of_row _ _ 1 _ _ _ hq
  obtain ⟨o, ho⟩ : ∃ o, atR ms s.data.toList = o := ⟨_, rfl⟩
  have hou : usedR (aput s.data.toList r ms) + o.c.1.length = usedR ms + r.c.1.length := by
    have := asum_aput (g := fun r : Raw => r.c.1.length) h.rise s.data.toList r
    rw [← ho]
    unfold usedR atR
    cases hg : aget s.data.toList ms with
    | none => rw [hg] at this; exact this
    | some d => rw [hg] at this; exact this
  have hno_le : o.c.1.length ≤ usedR ms := by
    have := asum_adel (g := fun r : Raw => r.c.1.length) h.rise s.data.toList
    unfold usedR
    rw [this, ← ho]
    unfold atR
    cases aget s.data.toList ms with
    | none => simp [Raw.zero]
    | some d => simp
  have HO := Lib.hid ho
  clear ho
  unfold Raw.val
  have hsl : ∀ q : Raw, q.sl = .slice (q.g.map fun b => ⟨b, 0, none⟩) q.c.1.length q.cap := fun _ => rfl
  obtain ⟨no, hno⟩ : ∃ n, o.c.1.length = n := ⟨_, rfl⟩
  obtain ⟨nr, hnr⟩ : ∃ n, r.c.1.length = n := ⟨_, rfl⟩
  have HNO := Lib.hid hno
  rw [hno] at hou hno_le
  have hsr := hsl r
  rw [hnr] at hsr hou hrl
  have HSR := Lib.hid hsr
  have HOU := Lib.hid hou
  obtain ⟨vr, hvr⟩ : ∃ v, r.sl = v := ⟨_, rfl⟩
  have c1 := cell_of_row _ a 1 _ _ _ h1.blk
  have c2 := cell_of_row _ a 2 _ _ _ h1.blk
  have f1 := free_of_row h1.blk 1
  simp only [cellsD, List.getElem?_toArray, List.getElem?_cons_succ, List.getElem?_cons_zero] at c1 c2
  have hB' : Hid (Below w.heap.size w (w.alloc (.cells #[r.sl, .int .i64 (r.c.2 : Int)] 94))) := hB
  clear hsl hsr hno hnr hq hvr hou hB h hr
  go_enter Try.func65, Try.ntmps65
  go_wp2_with fail
  generalize w.alloc (.cells #[r.sl, .int .i64 (r.c.2 : Int)] 94) = wb at *
  rw [HSR.out] at hx0
  have hlk2 : (Instr.lookup 88 (.map (some mb)) (.string s) false).run Try.prog wb.drew = .ok (.agg #[.slice (o.g.map fun b => ⟨b, 0, none⟩) no o.cap, .int .i64 (o.c.2 : Int)]) wb.drew := by
    have := look_run (w := wb.drew) h1.own hs
    rw [HO.out] at this
    unfold Raw.val Raw.sl at this
    rw [HNO.out] at this
    exact this
  have hfd := fun (w : World) => field0 w (o.g.map fun b => ⟨b, 0, none⟩) no o.cap (.int .i64 (o.c.2 : Int))
  go_region
  go_wp2_with fail
  have hv : (usedR ms : Int) + ((nr : Int) - (no : Int)) = ((usedR (aput s.data.toList r ms) : Nat) : Int) := by
    have e := HOU.out
    omega
  rw [hv]
  clear hv hlk2 hfd
  have hwb : a < wb.heap.size := h1.lt
  have h2 : (wb.setCell ⟨a, 1, none⟩ (.int .i64 ((usedR (aput s.data.toList r ms) : Nat) : Int))).drew.heap[a]? = some (.cells (cellsD most (usedR (aput s.data.toList r ms)) mb armed lv down) 90 (0, 0)) := by
    rw [show (wb.setCell ⟨a, 1, none⟩ (.int .i64 ((usedR (aput s.data.toList r ms) : Nat) : Int))).drew.heap = (wb.setCell ⟨a, 1, none⟩ (.int .i64 ((usedR (aput s.data.toList r ms) : Nat) : Int))).heap from rfl, set_blk h1.blk]
    rfl
  have hA2 : Away (fun b => b = a) wb (wb.setCell ⟨a, 1, none⟩ (.int .i64 ((usedR (aput s.data.toList r ms) : Nat) : Int))).drew := (Away.setCell wb ⟨a, 1, none⟩ _).drew
  have hne := h1.ne_map
  have hf2 : (wb.setCell ⟨a, 1, none⟩ (.int .i64 ((usedR (aput s.data.toList r ms) : Nat) : Int))).drew.ownsMap Try.prog 9 asIs mb ms.length (dmap (amap Raw.val ms)) := by
    have := own_away (l := amap Raw.val ms) (by simpa [amap] using h1.own) hA2 hne
    simpa [amap] using this
  have hf3 : ∀ p ∈ ms, p.1 ≠ s.data.toList → FRow (wb.setCell ⟨a, 1, none⟩ (.int .i64 ((usedR (aput s.data.toList r ms) : Nat) : Int))).drew p.2 := fun p hp hn => (h1.rows p hp hn).away hA2 fun b hb => (h1.ne_row (h1.rows p hp hn) hb).1
  have hr2 : FRow (wb.setCell ⟨a, 1, none⟩ (.int .i64 ((usedR (aput s.data.toList r ms) : Nat) : Int))).drew r := hr1.away hA2 fun b hb => (h1.ne_row hr1 hb).1
  have hx0' := (congrFun (congrArg World.cell? rfl) _ : (wb.setCell ⟨a, 1, none⟩ (.int .i64 ((usedR (aput s.data.toList r ms) : Nat) : Int))).drew.cell? ⟨g0, 0, none⟩ = _).trans ((World.cell?_setCell_other wb ⟨a, 1, none⟩ ⟨g0, 0, none⟩ _ (fun e => by injection e with e; omega)).trans hx0)
  have hx1' := (congrFun (congrArg World.cell? rfl) _ : (wb.setCell ⟨a, 1, none⟩ (.int .i64 ((usedR (aput s.data.toList r ms) : Nat) : Int))).drew.cell? ⟨g0, 1, none⟩ = _).trans ((World.cell?_setCell_other wb ⟨a, 1, none⟩ ⟨g0, 1, none⟩ _ (fun e => by injection e with e; omega)).trans hx1)
  have hA3 := hA.trans hA2 fun b e => .inl (.inl e)
  have hnr1 : ∀ b, r.g = some b → b ≠ a ∧ b ≠ mb := fun b hb => h1.ne_row hr1 hb
  clear hA hA2 hB' hx0 hx1 f1 c1 c2 hr1
  generalize (wb.setCell ⟨a, 1, none⟩ (.int .i64 ((usedR (aput s.data.toList r ms) : Nat) : Int))).drew = wc at *
  have c2 : wc.cell? ⟨a, 2, none⟩ = some (.map (some mb)) := cell_of_row wc a 2 _ _ _ h2
  obtain ⟨w', hrun, ho', ht⟩ := store_run (w := wc.drew) (mb := mb) (ms := ms) (show wc.drew.ownsMap Try.prog 9 asIs mb ms.length (dmap (amap Raw.val ms)) from hf2) (by unfold maxLen; omega) hs r
  unfold Raw.val at hrun
  rw [HSR.out] at hrun
  have hft := Away.of_turned ht
  have hA4 := (hA3.trans ((Away.refl (fun _ => False) wc).drew) fun b e => e.elim).trans hft fun b e => .inl (.inr e)
  go_region
  all_goals go_wp2
  all_goals go_end0
  have hwa : a < wc.heap.size := (Array.getElem?_eq_some_iff.1 h2).1
  refine ⟨rfl, ⟨(hft.block a hwa hne.symm).trans h2, ⟨ho', rising_aput h1.rise _ _, ?_, ?_⟩⟩, hA4⟩
  · intro p hp
    rcases mem_aput.1 hp with rfl | ⟨hp, hn⟩
    · exact (show FRow wc.drew r from hr2).away hft fun b hb => (hnr1 b hb).2
    · exact (show FRow wc.drew p.2 from hf3 p hp hn).away hft fun b hb => own_ne_row hf2 (hf3 p hp hn) hb
  · refine apart_of (rising_aput h1.rise _ _) fun p hp q hq hne b hb => ?_
    rcases mem_aput.1 hp with rfl | ⟨hp, hpn⟩ <;> rcases mem_aput.1 hq with rfl | ⟨hq, hqn⟩
    · exact absurd rfl hne
    · exact hap q hq hqn b hb
    · intro e
      exact hap p hp hpn b e hb
    · exact h1.apart p hp q hq hpn hqn hne b hb
end Go.Proofs.Ytebpdlggkncliaa

/-
  The disk's own calls within: drop, first, find.
-/
set_option linter.unusedVariables false
set_option linter.unusedSimpArgs false
namespace Go.Proofs.Ytebpdlggkncliaa
open Go.RowKit Go.Maps
open Go.Lib (byteCells byteCells_length byteCells_append)

set_option maxRecDepth 100000 in
set_option maxHeartbeats 1000000 in
theorem drop_any {w : World} {a mb : Nat} {ms : List (Nm × Raw)} {most : Nat} {armed : Bool} {lv : Int} {down : Bool} (h : DkP w a mb ms most armed lv down) (s : ByteArray) (hs : s.size ≤ maxLen) (hu : usedR ms ≤ 16777216) :
    Calls Try.prog 72 #[.pointer (some ⟨a, 0, none⟩), .string s] w fun e w' =>
      e = .returned (.tuple #[]) ∧ DkP w' a mb (adel s.data.toList ms) most armed lv down ∧ Away (fun b => b = a ∨ b = mb) w w' := by
  obtain ⟨o, ho⟩ : ∃ o, atR ms s.data.toList = o := ⟨_, rfl⟩
  have hou : usedR (adel s.data.toList ms) + o.c.1.length = usedR ms := by
    have := asum_adel (g := fun r : Raw => r.c.1.length) h.files.rise s.data.toList
    unfold usedR
    rw [this, ← ho]
    unfold atR
    cases aget s.data.toList ms with
    | none => simp [Raw.zero]
    | some d => simp
  have hlk0 := look_run (w := w.drew) h.files.own hs
  rw [ho] at hlk0
  obtain ⟨no, hno⟩ : ∃ n, o.c.1.length = n := ⟨_, rfl⟩
  have hlk : (Instr.lookup 88 (.map (some mb)) (.string s) false).run Try.prog w.drew = .ok (.agg #[.slice (o.g.map fun b => ⟨b, 0, none⟩) no o.cap, .int .i64 (o.c.2 : Int)]) w.drew := by
    rw [hlk0]
    unfold Raw.val Raw.sl
    rw [hno]
  rw [hno] at hou
  have hfd := fun (w : World) => field0 w (o.g.map fun b => ⟨b, 0, none⟩) no o.cap (.int .i64 (o.c.2 : Int))
  have c1 : w.cell? ⟨a, 1, none⟩ = some (.int .i64 (usedR ms : Int)) := h.cell 1
  have c2 : w.cell? ⟨a, 2, none⟩ = some (.map (some mb)) := h.cell 2
  have f1 := h.free 1
  have hv : (usedR ms : Int) - (no : Int) = ((usedR (adel s.data.toList ms) : Nat) : Int) := by omega
  have hno_le : no ≤ usedR ms := by omega
  have h2 : (w.setCell ⟨a, 1, none⟩ (.int .i64 ((usedR ms : Int) - (no : Int)))).drew.heap[a]? = some (.cells (cellsD most (usedR (adel s.data.toList ms)) mb armed lv down) 90 (0, 0)) := by
    rw [show (w.setCell ⟨a, 1, none⟩ (.int .i64 ((usedR ms : Int) - (no : Int)))).drew.heap = (w.setCell ⟨a, 1, none⟩ (.int .i64 ((usedR ms : Int) - (no : Int)))).heap from rfl, set_blk h.blk, hv]
    rfl
  have hA2 : Away (fun b => b = a) w (w.setCell ⟨a, 1, none⟩ (.int .i64 ((usedR ms : Int) - (no : Int)))).drew := (Away.setCell w ⟨a, 1, none⟩ _).drew
  have hne := h.ne_map
  have hf2 : DkR (w.setCell ⟨a, 1, none⟩ (.int .i64 ((usedR ms : Int) - (no : Int)))).drew mb ms := h.files.away hA2 fun b hb e => by
    subst e
    rcases hb with e | ⟨p, hp, hg⟩
    · exact hne e.symm
    · exact (h.ne_row (h.files.rows p hp) hg).1 rfl
  obtain ⟨w', hrun, ho', ht⟩ := drop_run hf2.own hs 0
  have hrun2 : ∀ ty, (Builtin.delete_ #[88, 9] ty #[.map (some mb), .string s]).run Try.prog (w.setCell ⟨a, 1, none⟩ (.int .i64 ((usedR ms : Int) - (no : Int)))).drew = .ok (.tuple #[]) w' := fun _ => hrun
  have hft := Away.of_turned ht
  have hA3 := (hA2.mono (F' := fun b => b = a ∨ b = mb) fun b _ e => .inl e).trans hft fun b e => .inl (.inr e)
  clear hlk0 hno ho hrun hv
  have hfin : DkP w' a mb (adel s.data.toList ms) most armed lv down ∧ Away (fun b => b = a ∨ b = mb) w w' := by
    refine ⟨⟨(hft.block a (Array.getElem?_eq_some_iff.1 h2).1 hne.symm).trans h2, ⟨ho', rising_adel hf2.rise _, fun p hp => ?_, ?_⟩⟩, hA3⟩
    · have hp := (mem_adel.1 hp).1
      exact (hf2.rows p hp).away hft fun b hb => hf2.ne_map (hf2.rows p hp) hb
    · exact List.Pairwise.filter _ hf2.apart
  have HF := Lib.hid hfin
  clear hfin hA2 hA3 hf2 h2 ho' ht hft hou hne h
  go_enter Try.func72, Try.ntmps72
  go_wp2_with fail
  go_region
  all_goals go_wp2
  all_goals go_end0
  exact ⟨rfl, HF.out⟩
end Go.Proofs.Ytebpdlggkncliaa

/-
  The disk's own calls within: first, find.
-/
set_option linter.unusedVariables false
set_option linter.unusedSimpArgs false
namespace Go.Proofs.Ytebpdlggkncliaa
open Go.RowKit Go.Maps
open Go.Lib (byteCells byteCells_length byteCells_append)

theorem addr_zero' (A : Option Addr) (c : Nat) : (if c = 0 then A else A.map (·.add 0)) = A := by
  split
  · rfl
  · cases A <;> rfl
theorem run_toB (w : World) (A : Option Addr) (n c j : Nat) (hj : j ≤ c) :
    (Instr.slice 26 (.slice A n c) none (some (.int .i64 (j : Int))) none).run Try.prog w = .ok (.slice A j c) w := by
  obtain ⟨i0, hi0, hz0, hz1, hz2⟩ := info_parts infoU8
  have ht : Try.prog.underlying 26 = some (.slice (Try.prog.elem 26)) := by simp [Program.elem, Try.underlying26]
  have he : Try.prog.elem 26 = 5 := by simp [Program.elem, Try.underlying26]
  rw [run_slice_h w 26 A n c ht .i64 (j : Int) (by omega) (by omega), he]
  simp [sizeOf, typeInfo, hi0, hz1, Result.andThen, sliced]
  intro hc
  have := addr_zero' A c
  rw [if_neg hc] at this
  exact this
theorem IsB.toB {w : World} {A : Option Addr} {n c : Nat} {l : List UInt8} (h : IsB w A n c l) {j : Nat} (hj : j ≤ n) : IsB w A j c (l.take j) := by
  refine ⟨by rw [List.length_take, h.len]; omega, Nat.le_trans hj h.cap, h.none_, ?_⟩
  rcases h.src with rfl | ⟨b, o, hA, hc⟩
  · exact .inl (List.take_nil ..)
  · refine .inr ⟨b, o, hA, fun i x hi => hc i x ?_⟩
    have hl := (List.getElem?_eq_some_iff.1 hi).1
    rw [List.length_take] at hl
    rwa [List.getElem?_take_of_lt (by omega)] at hi

theorem rowA {W : World} {B : Option Addr} {m c : Nat} {news : List UInt8} (hB : IsB W B m c news) (hm : m ≤ 70368744177664) (s : Nat) (ty : TypeId) :
    ∃ v' w', (Builtin.append_ #[26, 26] ty #[.slice none 0 0, .slice B m c]).run Try.prog W = .ok v' w' ∧ ∃ (g : Option Nat) (cap : Nat), v' = .slice (g.map fun b => ⟨b, 0, none⟩) m cap ∧ FRow w' ⟨g, cap, (news, s)⟩ ∧ (∀ b, g = some b → W.heap.size ≤ b) ∧ Below W.heap.size W w' := by
  obtain ⟨⟨g, cap, c'⟩, w', hr, hc, hrow, hg, hat⟩ := row_append (w := W) (r := ⟨none, 0, ([], s)⟩) (FRow.zero W) ty hB (by simpa using hm)
  simp only [List.nil_append] at hc
  subst hc
  refine ⟨_, w', hr, g, cap, by unfold Raw.sl; rw [hB.len], hrow, fun b hb => ?_, ⟨hg.os, hg.tape, hg.output, hg.size, fun b hb => hg.block b hb (by simp)⟩⟩
  rcases hat with e | e
  · simp at e; rw [e] at hb; cases hb
  · simp at e; rw [e] at hb; cases hb; exact Nat.le_refl _
set_option maxRecDepth 100000 in
set_option maxHeartbeats 1000000 in
theorem first_any {w : World} {r : Raw} (hr : FRow w r) (n : Nat) (hn : n ≤ r.c.1.length) (hl : r.c.1.length ≤ 16777216) :
    Calls Try.prog 68 #[r.val, .int .i64 (n : Int)] w fun e w' =>
      ∃ r' : Raw, e = .returned r'.val ∧ r'.c = (r.c.1.take n, n) ∧ FRow w' r' ∧ (∀ b, r'.g = some b → w.heap.size ≤ b) ∧ Below w.heap.size w w' := by
  have hB := hr.isB
  obtain ⟨A, hA⟩ : ∃ A : Option Addr, (r.g.map fun b => (⟨b, 0, none⟩ : Addr)) = A := ⟨_, rfl⟩
  obtain ⟨m, hm⟩ : ∃ m, r.c.1.length = m := ⟨_, rfl⟩
  have hv : r.val = .agg #[.slice A m r.cap, .int .i64 (r.c.2 : Int)] := by unfold Raw.val Raw.sl; rw [hA, hm]
  rw [hA, hm] at hB
  rw [hm] at hn hl
  rw [hv]
  obtain ⟨L, hL⟩ : ∃ L, r.c.1 = L := ⟨_, rfl⟩
  rw [hL] at hB ⊢
  have hcap := hB.cap
  have hto := fun w => run_toB w A m r.cap n (by omega)
  have hT := hB.toB hn
  clear hv hA hm hr hL
  generalize r.cap = cp at *
  generalize r.c.2 = sy at *
  go_enter Try.func68, Try.ntmps68
  have hh := rowA ((hT.alloc (.cells #[.slice A m cp, .int .i64 (sy : Int)] 94)).alloc (.cells #[.slice none 0 0, .int .i64 0] 94)) (by omega) n 0
  have hq : ((w.alloc (.cells #[.slice A m cp, .int .i64 (sy : Int)] 94)).alloc (.cells #[.slice none 0 0, .int .i64 0] 94)).heap[w.heap.size + 1]? = some (.cells #[.slice none 0 0, .int .i64 0] 94) := by
    have := heap_alloc_new (w.alloc (.cells #[.slice A m cp, .int .i64 (sy : Int)] 94)) (.cells #[.slice none 0 0, .int .i64 0] 94)
    simpa using this
  have hBl := ((Below.refl w.heap.size w).alloc (Nat.le_refl _) (.cells #[.slice A m cp, .int .i64 (sy : Int)] 94)).alloc (by simp) (.cells #[.slice none 0 0, .int .i64 0] 94)
  have hsz : ((w.alloc (.cells #[.slice A m cp, .int .i64 (sy : Int)] 94)).alloc (.cells #[.slice none 0 0, .int .i64 0] 94)).heap.size = w.heap.size + 2 := by simp
  have HQ := Lib.hid hq
  have HSZ := Lib.hid hsz
  clear hq hsz
  go_wp2_with (at_builtin; refine wpList_run _ rfl (.const (.slice none 0 0)) (.tmp 8) 26 rfl hh ?_; rintro v' w' ⟨g, cap, rfl, hrow, hgn, hb'⟩; have q1 : w'.heap[w.heap.size + 1]? = some (.cells #[.slice none 0 0, .int .i64 0] 94) := (hb'.block _ (by rw [HSZ.out]; omega)).trans HQ.out; have y0 : w'.cell? ⟨w.heap.size + 1, 0, none⟩ = some (.slice none 0 0) := cell_of_row w' _ 0 _ _ _ q1; have y1 : w'.cell? ⟨w.heap.size + 1, 1, none⟩ = some (.int .i64 0) := cell_of_row w' _ 1 _ _ _ q1; have yf0 := free_of_row q1 0; have yf1 := free_of_row q1 1; clear q1 hh)
  have hTl := hT.len
  have hval : (⟨g, cap, (L.take n, n)⟩ : Raw).val = .agg #[.slice (g.map fun b => ⟨b, 0, none⟩) n cap, .int .i64 (n : Int)] := by
    unfold Raw.val Raw.sl
    rw [hTl]
  have hgs : ∀ b, g = some b → b ≠ w.heap.size + 1 := fun b hb => by have := hgn b hb; rw [HSZ.out] at this; omega
  have hbn : ∀ b, g = some b → w.heap.size ≤ b := fun b hb => by have := hgn b hb; rw [HSZ.out] at this; omega
  rw [HSZ.out] at hb'
  have hbb := hBl.trans (hb'.mono (by omega))
  refine bodyPost_ret (v := .agg #[.slice (g.map fun b => ⟨b, 0, none⟩) n cap, .int .i64 (n : Int)]) (by simp [results, Try.results68, go_sem, y0, y1]) rfl ⟨⟨g, cap, (L.take n, n)⟩, by rw [hval], rfl, ?_, hbn, ?_⟩
  · exact (hrow.away (Away.setCell _ ⟨w.heap.size + 1, 0, none⟩ _) hgs).away (Away.setCell _ ⟨w.heap.size + 1, 1, none⟩ _) hgs
  · exact (hbb.setCell (p := ⟨w.heap.size + 1, 0, none⟩) (by simp) _).setCell (p := ⟨w.heap.size + 1, 1, none⟩) (by simp) _

set_option maxRecDepth 100000 in
set_option maxHeartbeats 1000000 in
theorem find_down {w : World} {a mb : Nat} {ms : List (Nm × Raw)} {most : Nat} {armed : Bool} {lv : Int} (h : DkP w a mb ms most armed lv true) (s : ByteArray) :
    Calls Try.prog 66 #[.pointer (some ⟨a, 0, none⟩), .string s] w fun e w' => e = .returned (.tuple #[Raw.zero.val, .int .i64 15]) ∧ Below w.heap.size w w' := by
  have hb := (Below.refl w.heap.size w).alloc (Nat.le_refl _) (.cells #[.slice none 0 0, .int .i64 0] 94)
  have h1 := h.away (Away.of_below hb) (by have := h.lt; omega) fun b hb => by have := h.files.lt hb; omega
  go_enter Try.func66, Try.ntmps66
  go_wp2_with fail
  refine (ready_any h1).mono ?_
  rintro e w' ⟨rfl, rfl⟩
  go_wp2_with fail
  refine bodyPost_ret (v := .tuple #[Raw.zero.val, .int .i64 15]) (by simp [results, Try.results66, go_sem]; rfl) rfl ⟨rfl, ?_⟩
  exact hb

set_option maxRecDepth 100000 in
set_option maxHeartbeats 1000000 in
theorem find_none {w : World} {a mb : Nat} {ms : List (Nm × Raw)} {most : Nat} {armed : Bool} {lv : Int} (h : DkP w a mb ms most armed lv false) (s : ByteArray) (hs : s.size ≤ maxLen) (hn : aget s.data.toList ms = none) :
    Calls Try.prog 66 #[.pointer (some ⟨a, 0, none⟩), .string s] w fun e w' => e = .returned (.tuple #[Raw.zero.val, .int .i64 13]) ∧ Below w.heap.size w w' := by
  have hb := (Below.refl w.heap.size w).alloc (Nat.le_refl _) (.cells #[.slice none 0 0, .int .i64 0] 94)
  have h1 := h.away (Away.of_below hb) (by have := h.lt; omega) fun b hb => by have := h.files.lt hb; omega
  have hlk := look_ok_run h1.files hs
  rw [show atR ms s.data.toList = Raw.zero by unfold atR; rw [hn]; rfl, hn] at hlk
  have c2 : (w.alloc (.cells #[.slice none 0 0, .int .i64 0] 94)).cell? ⟨a, 2, none⟩ = some (.map (some mb)) := h1.cell 2
  simp only [Raw.val, Raw.sl, Raw.zero, Option.map_none, Option.isSome_none, List.length_nil] at hlk
  have hlk' : (Instr.lookup 88 (.map (some mb)) (.string s) true).run Try.prog (w.alloc (.cells #[.slice none 0 0, .int .i64 0] 94)) = .ok (.tuple #[.agg #[.slice none 0 0, .int .i64 0], .bool false]) (w.alloc (.cells #[.slice none 0 0, .int .i64 0] 94)) := hlk
  clear hlk hn
  go_enter Try.func66, Try.ntmps66
  go_wp2_with fail
  refine (ready_any h1).mono ?_
  rintro e w' ⟨rfl, rfl⟩
  clear h1
  go_wp2_with fail
  refine bodyPost_ret (v := .tuple #[Raw.zero.val, .int .i64 13]) (by simp [results, Try.results66, go_sem]; rfl) rfl ⟨rfl, ?_⟩
  exact hb.alloc (by simp) _

set_option maxRecDepth 100000 in
set_option maxHeartbeats 1000000 in
theorem find_some {w : World} {a mb : Nat} {ms : List (Nm × Raw)} {most : Nat} {armed : Bool} {lv : Int} (h : DkP w a mb ms most armed lv false) (s : ByteArray) (hs : s.size ≤ maxLen) {r : Raw} (hn : aget s.data.toList ms = some r) :
    Calls Try.prog 66 #[.pointer (some ⟨a, 0, none⟩), .string s] w fun e w' => e = .returned (.tuple #[r.val, .int .i64 0]) ∧ Below w.heap.size w w' := by
  have hb := (Below.refl w.heap.size w).alloc (Nat.le_refl _) (.cells #[.slice none 0 0, .int .i64 0] 94)
  have h1 := h.away (Away.of_below hb) (by have := h.lt; omega) fun b hb => by have := h.files.lt hb; omega
  have hlk := look_ok_run h1.files hs
  rw [show atR ms s.data.toList = r by unfold atR; rw [hn]; rfl, hn] at hlk
  have c2 : (w.alloc (.cells #[.slice none 0 0, .int .i64 0] 94)).cell? ⟨a, 2, none⟩ = some (.map (some mb)) := h1.cell 2
  simp only [Raw.val, Raw.sl, Option.isSome_some] at hlk
  unfold Raw.val Raw.sl
  generalize (r.g.map fun b => (⟨b, 0, none⟩ : Addr)) = A at hlk ⊢
  generalize r.c.1.length = n at hlk ⊢
  clear hn
  go_enter Try.func66, Try.ntmps66
  go_wp2_with fail
  refine (ready_any h1).mono ?_
  rintro e w' ⟨rfl, rfl⟩
  clear h1
  go_wp2_with fail
  refine bodyPost_ret (v := .tuple #[.agg #[.slice A n r.cap, .int .i64 (r.c.2 : Int)], .int .i64 0]) (by simp [results, Try.results66, go_sem]) rfl ⟨rfl, ?_⟩
  exact ((Below.refl _ w).alloc (Nat.le_refl _) _).alloc (by simp) _
end Go.Proofs.Ytebpdlggkncliaa

/-
  The disk's operations: what is handed in as a closure is done, unless the power fails. (Made by dkop_gen.py: the same text for each closure.)
-/
set_option linter.unusedVariables false
set_option linter.unusedSimpArgs false
namespace Go.Proofs.Ytebpdlggkncliaa
open Go.RowKit Go.Maps
open Go.Lib (byteCells byteCells_length byteCells_append)

set_option maxRecDepth 100000 in
set_option maxHeartbeats 1000000 in
theorem operate_off {w : World} {a mb : Nat} {ms : List (Nm × Raw)} {most : Nat} {down : Bool} (h : DkP w a mb ms most true 0 down) (fv : Value) :
    Calls Try.prog 63 #[.pointer (some ⟨a, 0, none⟩), fv] w fun e w' => e = .returned (.int .i64 15) ∧ DkP w' a mb ms most false 0 true ∧ Away (fun b => b = a) w w' := by
  have c3 : w.cell? ⟨a, 3, none⟩ = some (.bool true) := h.cell 3
  have c4 : w.cell? ⟨a, 4, none⟩ = some (.int .i64 0) := h.cell 4
  have c5 : w.cell? ⟨a, 5, none⟩ = some (.bool down) := h.cell 5
  have f3 := h.free 3
  have f5 := h.free 5
  go_enter Try.func63, Try.ntmps63
  go_wp2_with fail
  go_ret
  have hA : Away (fun b => b = a) w ((w.setCell ⟨a, 5, none⟩ (.bool true)).setCell ⟨a, 3, none⟩ (.bool false)) := (Away.setCell w ⟨a, 5, none⟩ _).trans (Away.setCell _ ⟨a, 3, none⟩ _) fun b e => .inl e
  have hne := h.ne_map
  refine ⟨rfl, ⟨?_, h.files.away hA fun b hb e => ?_⟩, hA⟩
  · rw [set_blk (set_blk h.blk 5 _) 3]
    rfl
  · subst e
    rcases hb with e | ⟨p, hp, hg⟩
    · exact hne e.symm
    · exact (h.ne_row (h.files.rows p hp) hg).1 rfl
theorem DkP.less {w : World} {a mb : Nat} {ms : List (Nm × Raw)} {most : Nat} {armed : Bool} {lv : Int} {down : Bool} (h : DkP w a mb ms most armed lv down) (n : Int) :
    DkP (w.setCell ⟨a, 4, none⟩ (.int .i64 n)) a mb ms most armed n down ∧ Away (fun b => b = a) w (w.setCell ⟨a, 4, none⟩ (.int .i64 n)) := by
  have hA : Away (fun b => b = a) w (w.setCell ⟨a, 4, none⟩ (.int .i64 n)) := Away.setCell w ⟨a, 4, none⟩ _
  have hne := h.ne_map
  refine ⟨⟨?_, h.files.away hA fun b hb e => ?_⟩, hA⟩
  · rw [set_blk h.blk 4]
    rfl
  · subst e
    rcases hb with e | ⟨p, hp, hg⟩
    · exact hne e.symm
    · exact (h.ne_row (h.files.rows p hp) hg).1 rfl

set_option maxRecDepth 100000 in
set_option maxHeartbeats 1000000 in
theorem operate_Append {w : World} {a mb : Nat} {ms : List (Nm × Raw)} {most : Nat} {lv : Int} {down : Bool} (h : DkP w a mb ms most false lv down) (p0 p1 p2 p3 : Addr) (R : World → Prop)
    (hf : Calls Try.prog 64 #[.pointer (some p0), .pointer (some p1), .pointer (some p2), .pointer (some p3)] w fun e w' => e = .returned (.tuple #[]) ∧ R w') :
    Calls Try.prog 63 #[.pointer (some ⟨a, 0, none⟩), .func (.func 64) #[] #[.pointer (some p0), .pointer (some p1), .pointer (some p2), .pointer (some p3)]] w fun e w' => e = .returned (.int .i64 0) ∧ R w' := by
  have c3 : w.cell? ⟨a, 3, none⟩ = some (.bool false) := h.cell 3
  go_enter Try.func63, Try.ntmps63
  go_wp2_with fail
  refine hf.mono ?_
  rintro e w' ⟨rfl, hR⟩
  go_wp2_with fail
  go_ret
  exact ⟨rfl, hR⟩
set_option maxRecDepth 100000 in
set_option maxHeartbeats 1000000 in
theorem operateOn_Append {w : World} {a mb : Nat} {ms : List (Nm × Raw)} {most : Nat} {n : Nat} {down : Bool} (h : DkP w a mb ms most true ((n : Int) + 1) down) (hn : n + 1 < 9223372036854775808) (p0 p1 p2 p3 : Addr) (R : World → Prop)
    (hf : Calls Try.prog 64 #[.pointer (some p0), .pointer (some p1), .pointer (some p2), .pointer (some p3)] (w.setCell ⟨a, 4, none⟩ (.int .i64 (n : Int))) fun e w' => e = .returned (.tuple #[]) ∧ R w') :
    Calls Try.prog 63 #[.pointer (some ⟨a, 0, none⟩), .func (.func 64) #[] #[.pointer (some p0), .pointer (some p1), .pointer (some p2), .pointer (some p3)]] w fun e w' => e = .returned (.int .i64 0) ∧ R w' := by
  have c3 : w.cell? ⟨a, 3, none⟩ = some (.bool true) := h.cell 3
  have c4 : w.cell? ⟨a, 4, none⟩ = some (.int .i64 ((n : Int) + 1)) := h.cell 4
  have f4 := h.free 4
  have h1 : (((n : Int) + 1) == 0) = false := beq_eq_false_iff_ne.2 (by omega)
  go_enter Try.func63, Try.ntmps63
  go_wp2_with fail
  refine hf.mono ?_
  rintro e w' ⟨rfl, hR⟩
  go_wp2_with fail
  go_ret
  exact ⟨rfl, hR⟩

set_option maxRecDepth 100000 in
set_option maxHeartbeats 1000000 in
theorem operate_Cut {w : World} {a mb : Nat} {ms : List (Nm × Raw)} {most : Nat} {lv : Int} {down : Bool} (h : DkP w a mb ms most false lv down) (p0 p1 p2 p3 : Addr) (R : World → Prop)
    (hf : Calls Try.prog 67 #[.pointer (some p0), .pointer (some p1), .pointer (some p2), .pointer (some p3)] w fun e w' => e = .returned (.tuple #[]) ∧ R w') :
    Calls Try.prog 63 #[.pointer (some ⟨a, 0, none⟩), .func (.func 67) #[] #[.pointer (some p0), .pointer (some p1), .pointer (some p2), .pointer (some p3)]] w fun e w' => e = .returned (.int .i64 0) ∧ R w' := by
  have c3 : w.cell? ⟨a, 3, none⟩ = some (.bool false) := h.cell 3
  go_enter Try.func63, Try.ntmps63
  go_wp2_with fail
  refine hf.mono ?_
  rintro e w' ⟨rfl, hR⟩
  go_wp2_with fail
  go_ret
  exact ⟨rfl, hR⟩
set_option maxRecDepth 100000 in
set_option maxHeartbeats 1000000 in
theorem operateOn_Cut {w : World} {a mb : Nat} {ms : List (Nm × Raw)} {most : Nat} {n : Nat} {down : Bool} (h : DkP w a mb ms most true ((n : Int) + 1) down) (hn : n + 1 < 9223372036854775808) (p0 p1 p2 p3 : Addr) (R : World → Prop)
    (hf : Calls Try.prog 67 #[.pointer (some p0), .pointer (some p1), .pointer (some p2), .pointer (some p3)] (w.setCell ⟨a, 4, none⟩ (.int .i64 (n : Int))) fun e w' => e = .returned (.tuple #[]) ∧ R w') :
    Calls Try.prog 63 #[.pointer (some ⟨a, 0, none⟩), .func (.func 67) #[] #[.pointer (some p0), .pointer (some p1), .pointer (some p2), .pointer (some p3)]] w fun e w' => e = .returned (.int .i64 0) ∧ R w' := by
  have c3 : w.cell? ⟨a, 3, none⟩ = some (.bool true) := h.cell 3
  have c4 : w.cell? ⟨a, 4, none⟩ = some (.int .i64 ((n : Int) + 1)) := h.cell 4
  have f4 := h.free 4
  have h1 : (((n : Int) + 1) == 0) = false := beq_eq_false_iff_ne.2 (by omega)
  go_enter Try.func63, Try.ntmps63
  go_wp2_with fail
  refine hf.mono ?_
  rintro e w' ⟨rfl, hR⟩
  go_wp2_with fail
  go_ret
  exact ⟨rfl, hR⟩

set_option maxRecDepth 100000 in
set_option maxHeartbeats 1000000 in
theorem operate_Sync {w : World} {a mb : Nat} {ms : List (Nm × Raw)} {most : Nat} {lv : Int} {down : Bool} (h : DkP w a mb ms most false lv down) (p0 p1 p2 : Addr) (R : World → Prop)
    (hf : Calls Try.prog 70 #[.pointer (some p0), .pointer (some p1), .pointer (some p2)] w fun e w' => e = .returned (.tuple #[]) ∧ R w') :
    Calls Try.prog 63 #[.pointer (some ⟨a, 0, none⟩), .func (.func 70) #[] #[.pointer (some p0), .pointer (some p1), .pointer (some p2)]] w fun e w' => e = .returned (.int .i64 0) ∧ R w' := by
  have c3 : w.cell? ⟨a, 3, none⟩ = some (.bool false) := h.cell 3
  go_enter Try.func63, Try.ntmps63
  go_wp2_with fail
  refine hf.mono ?_
  rintro e w' ⟨rfl, hR⟩
  go_wp2_with fail
  go_ret
  exact ⟨rfl, hR⟩
set_option maxRecDepth 100000 in
set_option maxHeartbeats 1000000 in
theorem operateOn_Sync {w : World} {a mb : Nat} {ms : List (Nm × Raw)} {most : Nat} {n : Nat} {down : Bool} (h : DkP w a mb ms most true ((n : Int) + 1) down) (hn : n + 1 < 9223372036854775808) (p0 p1 p2 : Addr) (R : World → Prop)
    (hf : Calls Try.prog 70 #[.pointer (some p0), .pointer (some p1), .pointer (some p2)] (w.setCell ⟨a, 4, none⟩ (.int .i64 (n : Int))) fun e w' => e = .returned (.tuple #[]) ∧ R w') :
    Calls Try.prog 63 #[.pointer (some ⟨a, 0, none⟩), .func (.func 70) #[] #[.pointer (some p0), .pointer (some p1), .pointer (some p2)]] w fun e w' => e = .returned (.int .i64 0) ∧ R w' := by
  have c3 : w.cell? ⟨a, 3, none⟩ = some (.bool true) := h.cell 3
  have c4 : w.cell? ⟨a, 4, none⟩ = some (.int .i64 ((n : Int) + 1)) := h.cell 4
  have f4 := h.free 4
  have h1 : (((n : Int) + 1) == 0) = false := beq_eq_false_iff_ne.2 (by omega)
  go_enter Try.func63, Try.ntmps63
  go_wp2_with fail
  refine hf.mono ?_
  rintro e w' ⟨rfl, hR⟩
  go_wp2_with fail
  go_ret
  exact ⟨rfl, hR⟩

set_option maxRecDepth 100000 in
set_option maxHeartbeats 1000000 in
theorem operate_Remove {w : World} {a mb : Nat} {ms : List (Nm × Raw)} {most : Nat} {lv : Int} {down : Bool} (h : DkP w a mb ms most false lv down) (p0 p1 : Addr) (R : World → Prop)
    (hf : Calls Try.prog 71 #[.pointer (some p0), .pointer (some p1)] w fun e w' => e = .returned (.tuple #[]) ∧ R w') :
    Calls Try.prog 63 #[.pointer (some ⟨a, 0, none⟩), .func (.func 71) #[] #[.pointer (some p0), .pointer (some p1)]] w fun e w' => e = .returned (.int .i64 0) ∧ R w' := by
  have c3 : w.cell? ⟨a, 3, none⟩ = some (.bool false) := h.cell 3
  go_enter Try.func63, Try.ntmps63
  go_wp2_with fail
  refine hf.mono ?_
  rintro e w' ⟨rfl, hR⟩
  go_wp2_with fail
  go_ret
  exact ⟨rfl, hR⟩
set_option maxRecDepth 100000 in
set_option maxHeartbeats 1000000 in
theorem operateOn_Remove {w : World} {a mb : Nat} {ms : List (Nm × Raw)} {most : Nat} {n : Nat} {down : Bool} (h : DkP w a mb ms most true ((n : Int) + 1) down) (hn : n + 1 < 9223372036854775808) (p0 p1 : Addr) (R : World → Prop)
    (hf : Calls Try.prog 71 #[.pointer (some p0), .pointer (some p1)] (w.setCell ⟨a, 4, none⟩ (.int .i64 (n : Int))) fun e w' => e = .returned (.tuple #[]) ∧ R w') :
    Calls Try.prog 63 #[.pointer (some ⟨a, 0, none⟩), .func (.func 71) #[] #[.pointer (some p0), .pointer (some p1)]] w fun e w' => e = .returned (.int .i64 0) ∧ R w' := by
  have c3 : w.cell? ⟨a, 3, none⟩ = some (.bool true) := h.cell 3
  have c4 : w.cell? ⟨a, 4, none⟩ = some (.int .i64 ((n : Int) + 1)) := h.cell 4
  have f4 := h.free 4
  have h1 : (((n : Int) + 1) == 0) = false := beq_eq_false_iff_ne.2 (by omega)
  go_enter Try.func63, Try.ntmps63
  go_wp2_with fail
  refine hf.mono ?_
  rintro e w' ⟨rfl, hR⟩
  go_wp2_with fail
  go_ret
  exact ⟨rfl, hR⟩

set_option maxRecDepth 100000 in
set_option maxHeartbeats 1000000 in
theorem operate_Rename {w : World} {a mb : Nat} {ms : List (Nm × Raw)} {most : Nat} {lv : Int} {down : Bool} (h : DkP w a mb ms most false lv down) (p0 p1 p2 p3 : Addr) (R : World → Prop)
    (hf : Calls Try.prog 73 #[.pointer (some p0), .pointer (some p1), .pointer (some p2), .pointer (some p3)] w fun e w' => e = .returned (.tuple #[]) ∧ R w') :
    Calls Try.prog 63 #[.pointer (some ⟨a, 0, none⟩), .func (.func 73) #[] #[.pointer (some p0), .pointer (some p1), .pointer (some p2), .pointer (some p3)]] w fun e w' => e = .returned (.int .i64 0) ∧ R w' := by
  have c3 : w.cell? ⟨a, 3, none⟩ = some (.bool false) := h.cell 3
  go_enter Try.func63, Try.ntmps63
  go_wp2_with fail
  refine hf.mono ?_
  rintro e w' ⟨rfl, hR⟩
  go_wp2_with fail
  go_ret
  exact ⟨rfl, hR⟩
set_option maxRecDepth 100000 in
set_option maxHeartbeats 1000000 in
theorem operateOn_Rename {w : World} {a mb : Nat} {ms : List (Nm × Raw)} {most : Nat} {n : Nat} {down : Bool} (h : DkP w a mb ms most true ((n : Int) + 1) down) (hn : n + 1 < 9223372036854775808) (p0 p1 p2 p3 : Addr) (R : World → Prop)
    (hf : Calls Try.prog 73 #[.pointer (some p0), .pointer (some p1), .pointer (some p2), .pointer (some p3)] (w.setCell ⟨a, 4, none⟩ (.int .i64 (n : Int))) fun e w' => e = .returned (.tuple #[]) ∧ R w') :
    Calls Try.prog 63 #[.pointer (some ⟨a, 0, none⟩), .func (.func 73) #[] #[.pointer (some p0), .pointer (some p1), .pointer (some p2), .pointer (some p3)]] w fun e w' => e = .returned (.int .i64 0) ∧ R w' := by
  have c3 : w.cell? ⟨a, 3, none⟩ = some (.bool true) := h.cell 3
  have c4 : w.cell? ⟨a, 4, none⟩ = some (.int .i64 ((n : Int) + 1)) := h.cell 4
  have f4 := h.free 4
  have h1 : (((n : Int) + 1) == 0) = false := beq_eq_false_iff_ne.2 (by omega)
  go_enter Try.func63, Try.ntmps63
  go_wp2_with fail
  refine hf.mono ?_
  rintro e w' ⟨rfl, hR⟩
  go_wp2_with fail
  go_ret
  exact ⟨rfl, hR⟩
end Go.Proofs.Ytebpdlggkncliaa

/-
  The disk's closures: what each operation does.
-/
set_option linter.unusedVariables false
set_option linter.unusedSimpArgs false
namespace Go.Proofs.Ytebpdlggkncliaa
open Go.RowKit Go.Maps
open Go.Lib (byteCells byteCells_length byteCells_append)

section
variable {w : World} {a mb : Nat} {ms : List (Nm × Raw)} {most : Nat} {armed : Bool} {lv : Int} {down : Bool}

set_option maxRecDepth 100000 in
set_option maxHeartbeats 1000000 in
theorem cl_append {r : Raw} {s : ByteArray} {fb bb db nb : Nat} {B : Option Addr} {n c : Nat} {l : List UInt8} (h : DkP w a mb ms most armed lv down) (hs : s.size ≤ maxLen)
    (hf : w.heap[fb]? = some (.cells #[r.sl, .int .i64 (r.c.2 : Int)] 94 (0, 0))) (hb : w.heap[bb]? = some (.cells #[.slice B n c] 26 (0, 0)))
    (hd : w.heap[db]? = some (.cells #[.pointer (some ⟨a, 0, none⟩)] 22 (0, 0))) (hn : w.heap[nb]? = some (.cells #[.string s] 9 (0, 0)))
    (hB : IsB w B n c l) (hr : FRow w r) (hap : ∀ p ∈ ms, p.1 ≠ s.data.toList → ∀ b, r.g = some b → p.2.g ≠ some b) (hu : usedR ms ≤ 16777216) (hml : ms.length ≤ 1000) (hrl : r.c.1.length + n ≤ 16777216) :
    Calls Try.prog 64 #[.pointer (some ⟨fb, 0, none⟩), .pointer (some ⟨bb, 0, none⟩), .pointer (some ⟨db, 0, none⟩), .pointer (some ⟨nb, 0, none⟩)] w fun e w' =>
      e = .returned (.tuple #[]) ∧ ∃ r' : Raw, r'.c = (r.c.1 ++ l, r.c.2) ∧ (r'.g = r.g ∨ r'.g = some w.heap.size) ∧ DkP w' a mb (aput s.data.toList r' ms) most armed lv down ∧ Away (fun b => b = a ∨ b = mb ∨ r.g = some b ∨ b = fb) w w' := by
  have hq := h.q s.data.toList
  have x0 : w.cell? ⟨fb, 0, none⟩ = some r.sl := cell_of_row w _ 0 _ _ _ hf
  have y0 : w.cell? ⟨bb, 0, none⟩ = some (.slice B n c) := cell_of_row w _ 0 _ _ _ hb
  obtain ⟨A, nr, cp, hA⟩ : ∃ A m c, r.sl = .slice A m c := ⟨_, _, _, rfl⟩
  have hh := rowB hr hB (by omega) A nr cp hA 0
  have hnr : nr = r.c.1.length := by
    unfold Raw.sl at hA
    simp at hA
    exact hA.2.1.symm
  rw [hA] at x0
  -- what is apart from the row
  have nf : ∀ b, r.g = some b → b ≠ fb ∧ b ≠ db ∧ b ≠ nb := fun b hb => by
    obtain ⟨cs, hc⟩ := row_type hr hb
    refine ⟨?_, ?_, ?_⟩ <;> rintro rfl
    · rw [hf] at hc; simp at hc
    · rw [hd] at hc; simp at hc
    · rw [hn] at hc; simp at hc
  have hdf : db ≠ fb := by rintro rfl; rw [hf] at hd; simp at hd
  have hnf : nb ≠ fb := by rintro rfl; rw [hf] at hn; simp at hn
  have hfd : fb ≠ db := by rintro rfl; rw [hf] at hd; simp at hd
  have hfn : fb ≠ nb := by rintro rfl; rw [hf] at hn; simp at hn
  have lf := (Array.getElem?_eq_some_iff.1 hf).1
  have ld := (Array.getElem?_eq_some_iff.1 hd).1
  have ln := (Array.getElem?_eq_some_iff.1 hn).1
  have HF := Lib.hid hf
  have HD := Lib.hid hd
  have HN := Lib.hid hn
  have HNR := Lib.hid hnr
  have HA := Lib.hid hA
  clear hf hd hn hb hnr hA
  go_enter Try.func64, Try.ntmps64
  go_wp2_with (at_builtin; refine wpList_run _ rfl (.tmp 5) (.tmp 6) 26 rfl hh ?_; rintro v' w1 ⟨g, cap, rfl, hrow, hgn, hgr⟩; have hag := Away.of_grown hgr; have q1 := (hag.block fb lf (fun e => (nf fb e).1 rfl)).trans HF.out; have z0 : w1.cell? ⟨fb, 0, none⟩ = some r.sl := cell_of_row w1 _ 0 _ _ _ q1; have zf := free_of_row q1 0; have z1 : w1.cell? ⟨fb, 1, none⟩ = some (.int .i64 (r.c.2 : Int)) := cell_of_row w1 _ 1 _ _ _ q1; have q2 := (hag.block db ld (fun e => (nf db e).2.1 rfl)).trans HD.out; have z2 : w1.cell? ⟨db, 0, none⟩ = some (.pointer (some ⟨a, 0, none⟩)) := cell_of_row w1 _ 0 _ _ _ q2; have q3 := (hag.block nb ln (fun e => (nf nb e).2.2 rfl)).trans HN.out; have z3 : w1.cell? ⟨nb, 0, none⟩ = some (.string s) := cell_of_row w1 _ 0 _ _ _ q3; rw [HA.out] at z0; clear q1 q2 q3 hh)
  have HV : Hid ((⟨g, cap, (r.c.1 ++ l, r.c.2)⟩ : Raw).val = .agg #[.slice (g.map fun b => ⟨b, 0, none⟩) (nr + n) cap, .int .i64 (r.c.2 : Int)]) := by
    show _ = _
    unfold Raw.val Raw.sl
    rw [List.length_append, hB.len, HNR.out]
  rw [← HV.out]
  have hq1 := hq.away hag (fun e => (h.ne_row hr e).1 rfl) fun b hb e => by
    rcases hb with rfl | ⟨p, hp, hpn, hg⟩
    · exact (h.ne_row hr e).2 rfl
    · exact hap p hp hpn b e hg
  have hS := Away.setCell w1 ⟨fb, 0, none⟩ (.slice (g.map fun b => ⟨b, 0, none⟩) (nr + n) cap)
  have hfo := hq1.other ((hag.block fb lf (fun e => (nf fb e).1 rfl)).trans HF.out) (by decide) (by decide)
  have hq2 := hq1.away hS (fun e => hfo.1 e.symm) fun b hb e => by subst e; exact hfo.2 hb
  have hgf : ∀ b, g = some b → b ≠ fb := fun b hb e => by
    subst e
    rcases hgn with e | e
    · rw [e] at hb; exact (nf _ hb).1 rfl
    · rw [e] at hb; injection hb with hb; omega
  have hrow2 := hrow.away hS hgf
  refine (put_any s hq2 hs _ hrow2 ?_ hu hml (by rw [List.length_append, hB.len]; exact hrl)).mono ?_
  · intro p hp hpn b hb hpb
    rcases hgn with e | e
    · exact hap p hp hpn b (by rw [← e]; exact hb) hpb
    · have := (h.files.rows p hp).lt hpb
      have hb' : g = some b := hb
      rw [e] at hb'; injection hb' with hb'; omega
  · rintro e w' ⟨rfl, hP, hA'⟩
    go_wp2_with fail
    go_end0
    refine ⟨rfl, ⟨g, cap, (r.c.1 ++ l, r.c.2)⟩, rfl, hgn, hP, ?_⟩
    refine ((hag.mono (F' := fun b => b = a ∨ b = mb ∨ r.g = some b ∨ b = fb) fun b _ e => .inr (.inr (.inl e))).trans hS fun b e => .inl (.inr (.inr (.inr e)))).trans hA' fun b e => .inl ?_
    rcases e with e | e
    · exact .inl e
    · exact .inr (.inl e)

theorem away_cell {F : Nat → Prop} {w w' : World} {p : Addr} {v : Value} (ha : Away F w w') (hn : ¬ F p.block) (h : w.cell? p = some v) : w'.cell? p = some v :=
  (World.cell?_of_block (ha.block p.block (block_lt_of_cell h) hn)).trans h
theorem FRow.syn {w : World} {r : Raw} (h : FRow w r) (n : Nat) : FRow w ⟨r.g, r.cap, (r.c.1, n)⟩ := h
theorem Raw.sl_syn (r : Raw) (n : Nat) : (⟨r.g, r.cap, (r.c.1, n)⟩ : Raw).sl = r.sl := rfl

set_option maxRecDepth 100000 in
set_option maxHeartbeats 1000000 in
theorem cl_sync {r : Raw} {s : ByteArray} {fb db nb : Nat} (h : DkP w a mb ms most armed lv down) (hs : s.size ≤ maxLen)
    (hf : w.heap[fb]? = some (.cells #[r.sl, .int .i64 (r.c.2 : Int)] 94 (0, 0)))
    (hd : w.heap[db]? = some (.cells #[.pointer (some ⟨a, 0, none⟩)] 22 (0, 0))) (hn : w.heap[nb]? = some (.cells #[.string s] 9 (0, 0)))
    (hr : FRow w r) (hap : ∀ p ∈ ms, p.1 ≠ s.data.toList → ∀ b, r.g = some b → p.2.g ≠ some b) (hu : usedR ms ≤ 16777216) (hml : ms.length ≤ 1000) (hrl : r.c.1.length ≤ 16777216) :
    Calls Try.prog 70 #[.pointer (some ⟨fb, 0, none⟩), .pointer (some ⟨db, 0, none⟩), .pointer (some ⟨nb, 0, none⟩)] w fun e w' =>
      e = .returned (.tuple #[]) ∧ DkP w' a mb (aput s.data.toList ⟨r.g, r.cap, (r.c.1, r.c.1.length)⟩ ms) most armed lv down ∧ Away (fun b => b = a ∨ b = mb ∨ b = fb) w w' := by
  have hq := h.q s.data.toList
  have x0 : w.cell? ⟨fb, 0, none⟩ = some r.sl := cell_of_row w _ 0 _ _ _ hf
  have x1 : w.cell? ⟨fb, 1, none⟩ = some (.int .i64 (r.c.2 : Int)) := cell_of_row w _ 1 _ _ _ hf
  have f1 := free_of_row hf 1
  have d0 : w.cell? ⟨db, 0, none⟩ = some (.pointer (some ⟨a, 0, none⟩)) := cell_of_row w _ 0 _ _ _ hd
  have n0 : w.cell? ⟨nb, 0, none⟩ = some (.string s) := cell_of_row w _ 0 _ _ _ hn
  have hdf : db ≠ fb := by rintro rfl; rw [hf] at hd; simp at hd
  have hnf : nb ≠ fb := by rintro rfl; rw [hf] at hn; simp at hn
  have nf : ∀ b, r.g = some b → b ≠ fb := fun b hb => by
    obtain ⟨cs, hc⟩ := row_type hr hb
    rintro rfl
    rw [hf] at hc; simp at hc
  have hfo := hq.other hf (by decide) (by decide)
  obtain ⟨nr, hnr⟩ : ∃ n, r.c.1.length = n := ⟨_, rfl⟩
  have hsl : r.sl = .slice (r.g.map fun b => ⟨b, 0, none⟩) nr r.cap := by unfold Raw.sl; rw [hnr]
  have HV : Hid ((⟨r.g, r.cap, (r.c.1, nr)⟩ : Raw).val = .agg #[.slice (r.g.map fun b => ⟨b, 0, none⟩) nr r.cap, .int .i64 (nr : Int)]) := by
    show _ = _
    unfold Raw.val
    rw [Raw.sl_syn, hsl]
  have hS := Away.setCell w ⟨fb, 1, none⟩ (.int .i64 (nr : Int))
  have hq2 := hq.away hS (fun e => hfo.1 e.symm) fun b hb e => by subst e; exact hfo.2 hb
  have hrow2 := (hr.syn nr).away hS nf
  rw [hnr]
  rw [hsl] at x0
  rw [hnr] at hrl
  have HR := Lib.hid hnr
  clear hf hd hn hnr hsl hq
  go_enter Try.func70, Try.ntmps70
  go_wp2_with fail
  rw [← HV.out]
  refine (put_any s hq2 hs _ hrow2 hap hu hml (by show r.c.1.length ≤ _; rw [HR.out]; exact hrl)).mono ?_
  rintro e w' ⟨rfl, hP, hA'⟩
  go_wp2_with fail
  go_end0
  refine ⟨rfl, hP, ?_⟩
  refine (hS.mono (F' := fun b => b = a ∨ b = mb ∨ b = fb) fun b _ e => .inr (.inr e)).trans hA' fun b e => .inl ?_
  rcases e with e | e
  · exact .inl e
  · exact .inr (.inl e)

set_option maxRecDepth 100000 in
set_option maxHeartbeats 1000000 in
theorem cl_remove {s : ByteArray} {db nb : Nat} (h : DkP w a mb ms most armed lv down) (hs : s.size ≤ maxLen)
    (hd : w.heap[db]? = some (.cells #[.pointer (some ⟨a, 0, none⟩)] 22 (0, 0))) (hn : w.heap[nb]? = some (.cells #[.string s] 9 (0, 0)))
    (hu : usedR ms ≤ 16777216) :
    Calls Try.prog 71 #[.pointer (some ⟨db, 0, none⟩), .pointer (some ⟨nb, 0, none⟩)] w fun e w' =>
      e = .returned (.tuple #[]) ∧ DkP w' a mb (adel s.data.toList ms) most armed lv down ∧ Away (fun b => b = a ∨ b = mb) w w' := by
  have d0 : w.cell? ⟨db, 0, none⟩ = some (.pointer (some ⟨a, 0, none⟩)) := cell_of_row w _ 0 _ _ _ hd
  have n0 : w.cell? ⟨nb, 0, none⟩ = some (.string s) := cell_of_row w _ 0 _ _ _ hn
  clear hd hn
  go_enter Try.func71, Try.ntmps71
  go_wp2_with fail
  refine (drop_any h s hs hu).mono ?_
  rintro e w' ⟨rfl, hP, hA'⟩
  go_wp2_with fail
  go_end0
  exact ⟨rfl, hP, hA'⟩

set_option maxRecDepth 100000 in
set_option maxHeartbeats 1000000 in
theorem cl_rename {r : Raw} {s t : ByteArray} {fb db nb tb : Nat} (h : DkP w a mb ms most armed lv down) (hs : s.size ≤ maxLen) (ht : t.size ≤ maxLen)
    (hf : w.heap[fb]? = some (.cells #[r.sl, .int .i64 (r.c.2 : Int)] 94 (0, 0)))
    (hd : w.heap[db]? = some (.cells #[.pointer (some ⟨a, 0, none⟩)] 22 (0, 0))) (hn : w.heap[nb]? = some (.cells #[.string s] 9 (0, 0)))
    (hto : w.heap[tb]? = some (.cells #[.string t] 9 (0, 0)))
    (hat : aget s.data.toList ms = some r) (hu : usedR ms ≤ 16777216) (hml : ms.length ≤ 1000) :
    Calls Try.prog 73 #[.pointer (some ⟨db, 0, none⟩), .pointer (some ⟨nb, 0, none⟩), .pointer (some ⟨tb, 0, none⟩), .pointer (some ⟨fb, 0, none⟩)] w fun e w' =>
      e = .returned (.tuple #[]) ∧ DkP w' a mb (aput t.data.toList r (adel s.data.toList ms)) most armed lv down ∧ Away (fun b => b = a ∨ b = mb) w w' := by
  have hmem := aget_mem hat
  have hr := h.files.rows _ hmem
  have hu1 := asum_adel (g := fun r : Raw => r.c.1.length) h.files.rise s.data.toList
  rw [hat] at hu1
  have hl1 : (adel s.data.toList ms).length ≤ ms.length := List.length_filter_le _ _
  have hrl : r.c.1.length ≤ 16777216 := by
    unfold usedR at hu
    simp at hu1
    omega
  have hu2 : usedR (adel s.data.toList ms) ≤ 16777216 := by
    unfold usedR at hu ⊢
    omega
  have d0 : w.cell? ⟨db, 0, none⟩ = some (.pointer (some ⟨a, 0, none⟩)) := cell_of_row w _ 0 _ _ _ hd
  have n0 : w.cell? ⟨nb, 0, none⟩ = some (.string s) := cell_of_row w _ 0 _ _ _ hn
  have lf := (Array.getElem?_eq_some_iff.1 hf).1
  have ld := (Array.getElem?_eq_some_iff.1 hd).1
  have lt := (Array.getElem?_eq_some_iff.1 hto).1
  have of := h.other hf (by decide) (by decide)
  have od := h.other hd (by decide) (by decide)
  have ot := h.other hto (by decide) (by decide)
  have HF := Lib.hid hf
  have HD := Lib.hid hd
  have HT := Lib.hid hto
  have hrr : ∀ b, r.g = some b → b ≠ a ∧ b ≠ mb := fun b hb => h.ne_row hr hb
  have hap : ∀ p ∈ adel s.data.toList ms, p.1 ≠ t.data.toList → ∀ b, r.g = some b → p.2.g ≠ some b := fun p hp _ b hb => by
    obtain ⟨hp, hpn⟩ := mem_adel.1 hp
    exact h.files.two hmem hp (fun e => hpn e.symm) hb
  clear hf hd hn hto hat hu1 hl1
  go_enter Try.func73, Try.ntmps73
  go_wp2_with fail
  refine (drop_any h s hs hu).mono ?_
  rintro e w1 ⟨rfl, hP, hA1⟩
  have q1 := (hA1.block fb lf (fun e => of (by rcases e with e | e; exact .inl e; exact .inr (.inl e)))).trans HF.out
  have q2 := (hA1.block db ld (fun e => od (by rcases e with e | e; exact .inl e; exact .inr (.inl e)))).trans HD.out
  have q3 := (hA1.block tb lt (fun e => ot (by rcases e with e | e; exact .inl e; exact .inr (.inl e)))).trans HT.out
  have hr1 := hr.away hA1 fun b hb e => by
    rcases e with e | e
    · exact (hrr b hb).1 e
    · exact (hrr b hb).2 e
  have z0 : w1.cell? ⟨fb, 0, none⟩ = some r.sl := cell_of_row w1 _ 0 _ _ _ q1
  have z1 : w1.cell? ⟨fb, 1, none⟩ = some (.int .i64 (r.c.2 : Int)) := cell_of_row w1 _ 1 _ _ _ q1
  have z2 : w1.cell? ⟨db, 0, none⟩ = some (.pointer (some ⟨a, 0, none⟩)) := cell_of_row w1 _ 0 _ _ _ q2
  have z3 : w1.cell? ⟨tb, 0, none⟩ = some (.string t) := cell_of_row w1 _ 0 _ _ _ q3
  clear q1 q2 q3
  go_wp2_with fail
  refine (put_any t (hP.q _) ht r hr1 hap hu2 (by have : (adel s.data.toList ms).length ≤ ms.length := List.length_filter_le _ _; omega) hrl).mono ?_
  rintro e w' ⟨rfl, hP', hA'⟩
  go_wp2_with fail
  go_end0
  exact ⟨rfl, hP', hA1.trans hA' fun b e => .inl e⟩

set_option maxRecDepth 100000 in
set_option maxHeartbeats 1000000 in
theorem cl_cut {r : Raw} {s : ByteArray} {k : Nat} {fb db nb kb : Nat} (h : DkP w a mb ms most armed lv down) (hs : s.size ≤ maxLen)
    (hf : w.heap[fb]? = some (.cells #[r.sl, .int .i64 (r.c.2 : Int)] 94 (0, 0)))
    (hd : w.heap[db]? = some (.cells #[.pointer (some ⟨a, 0, none⟩)] 22 (0, 0))) (hn : w.heap[nb]? = some (.cells #[.string s] 9 (0, 0)))
    (hkb : w.heap[kb]? = some (.cells #[.int .i64 (k : Int)] 3 (0, 0)))
    (hr : FRow w r) (hk : k ≤ r.c.1.length) (hu : usedR ms ≤ 16777216) (hml : ms.length ≤ 1000) (hrl : r.c.1.length ≤ 16777216) :
    Calls Try.prog 67 #[.pointer (some ⟨db, 0, none⟩), .pointer (some ⟨nb, 0, none⟩), .pointer (some ⟨fb, 0, none⟩), .pointer (some ⟨kb, 0, none⟩)] w fun e w' =>
      e = .returned (.tuple #[]) ∧ ∃ r' : Raw, r'.c = (r.c.1.take k, k) ∧ (∀ b, r'.g = some b → w.heap.size ≤ b) ∧ DkP w' a mb (aput s.data.toList r' ms) most armed lv down ∧ Away (fun b => b = a ∨ b = mb) w w' := by
  have hsl : r.sl = .slice (r.g.map fun b => ⟨b, 0, none⟩) r.c.1.length r.cap := rfl
  have x0 : w.drew.cell? ⟨fb, 0, none⟩ = some r.sl := cell_of_row w _ 0 _ _ _ hf
  have x1 : w.drew.cell? ⟨fb, 1, none⟩ = some (.int .i64 (r.c.2 : Int)) := cell_of_row w _ 1 _ _ _ hf
  have d0 : w.drew.cell? ⟨db, 0, none⟩ = some (.pointer (some ⟨a, 0, none⟩)) := cell_of_row w _ 0 _ _ _ hd
  have n0 : w.drew.cell? ⟨nb, 0, none⟩ = some (.string s) := cell_of_row w _ 0 _ _ _ hn
  have k0 : w.drew.cell? ⟨kb, 0, none⟩ = some (.int .i64 (k : Int)) := cell_of_row w _ 0 _ _ _ hkb
  have hr2 : FRow w.drew r := hr
  have hP0 : DkP w.drew a mb ms most armed lv down := h.away (F := fun _ => False) (Away.refl _ w).drew (fun e => e) fun _ _ e => e
  have hW : Away (fun b => b = a ∨ b = mb) w w.drew := (Away.refl _ w).drew
  have hws : w.heap.size ≤ w.drew.heap.size := Nat.le_refl _
  have fo : ∀ {x : Nat}, ¬ (x = a ∨ FootR mb ms x) → ¬ (x = a ∨ x = mb) := fun hx e => hx (by rcases e with e | e; exact .inl e; exact .inr (.inl e))
  have of : ¬ (fb = a ∨ fb = mb) := fo (h.other hf (by decide) (by decide))
  have od : ¬ (db = a ∨ db = mb) := fo (h.other hd (by decide) (by decide))
  have on : ¬ (nb = a ∨ nb = mb) := fo (h.other hn (by decide) (by decide))
  have ok : ¬ (kb = a ∨ kb = mb) := fo (h.other hkb (by decide) (by decide))
  clear hf hd hn hkb h hr fo
  go_enter Try.func67, Try.ntmps67
  go_wp2_with fail
  refine wp_region_held_drew (S := fun w' => Away (fun b => b = a ∨ b = mb) w.drew w') (by kernel_rfl) (Away.refl _ _) (fun hHeld => ?_)
  generalize w.drew = wa at x0 x1 d0 n0 k0 hr2 hP0 hW hws hHeld ⊢
  refine wpAnyH_take (i := 0) (v := ?_) rfl (by kernel_rfl) (by kernel_rfl) (by kernel_rfl) (fun _ _ _ h => h) (Or.inl ⟨by rfl, ?_⟩) hHeld ?_
  rotate_left
  · (intro w' hSw; (try dsimp only at hSw); have v0 := away_cell hSw od d0; have v1 := away_cell hSw on n0; have v2 := away_cell hSw of x0; have v3 := away_cell hSw of x1; have v4 := away_cell hSw ok k0; clear hSw; go_simp <;> rfl)
  simp only [Act.put, List.getElem_toArray, List.getElem_cons_zero, List.getElem_cons_succ, List.setIfInBounds_toArray, List.set_cons_zero, List.set_cons_succ]
  refine wpAnyH_take (i := 1) (v := ?_) rfl (by kernel_rfl) (by kernel_rfl) (by kernel_rfl) (fun _ _ _ h => h) (Or.inl ⟨by rfl, ?_⟩) hHeld ?_
  rotate_left
  · (intro w' hSw; (try dsimp only at hSw); have v0 := away_cell hSw od d0; have v1 := away_cell hSw on n0; have v2 := away_cell hSw of x0; have v3 := away_cell hSw of x1; have v4 := away_cell hSw ok k0; clear hSw; go_simp <;> rfl)
  simp only [Act.put, List.getElem_toArray, List.getElem_cons_zero, List.getElem_cons_succ, List.setIfInBounds_toArray, List.set_cons_zero, List.set_cons_succ]
  refine wpAnyH_take (i := 2) (v := ?_) rfl (by kernel_rfl) (by kernel_rfl) (by kernel_rfl) (fun _ _ _ h => h) (Or.inl ⟨by rfl, ?_⟩) hHeld ?_
  rotate_left
  · (intro w' hSw; (try dsimp only at hSw); have v0 := away_cell hSw od d0; have v1 := away_cell hSw on n0; have v2 := away_cell hSw of x0; have v3 := away_cell hSw of x1; have v4 := away_cell hSw ok k0; clear hSw; go_simp <;> rfl)
  simp only [Act.put, List.getElem_toArray, List.getElem_cons_zero, List.getElem_cons_succ, List.setIfInBounds_toArray, List.set_cons_zero, List.set_cons_succ]
  refine wpAnyH_take (i := 3) (v := ?_) rfl (by kernel_rfl) (by kernel_rfl) (by kernel_rfl) (fun _ _ _ h => h) (Or.inl ⟨by rfl, ?_⟩) hHeld ?_
  rotate_left
  · (intro w' hSw; (try dsimp only at hSw); have v0 := away_cell hSw od d0; have v1 := away_cell hSw on n0; have v2 := away_cell hSw of x0; have v3 := away_cell hSw of x1; have v4 := away_cell hSw ok k0; clear hSw; go_simp <;> rfl)
  simp only [Act.put, List.getElem_toArray, List.getElem_cons_zero, List.getElem_cons_succ, List.setIfInBounds_toArray, List.set_cons_zero, List.set_cons_succ]
  refine wpAnyH_ready (rs := [4]) (by kernel_rfl) (by simp) ?_
  refine AllReadyH.cons rfl (fun K hK => ?_) AllReadyH.nil
  go_simp
  refine (first_any hr2 k hk hrl).mono ?_
  rintro ex w1 ⟨r', rfl, hc, hrow, hnew, hb1⟩
  dsimp only
  refine hK.out _ _ (Away.of_new hb1 _) (fun hHeld => ?_)
  clear hK K
  try simp only [Act.put, List.getElem_toArray, List.getElem_cons_zero, List.getElem_cons_succ, List.setIfInBounds_toArray, List.set_cons_zero, List.set_cons_succ]
  have hP1 := hP0.away (Away.of_below hb1) (fun e => by have := hP0.lt; omega) fun b hb e => by have := hP0.files.lt hb; omega
  have hap : ∀ p ∈ ms, p.1 ≠ s.data.toList → ∀ b, r'.g = some b → p.2.g ≠ some b := fun p hp _ b hb e => by
    have h1 := hnew b hb
    have h2 := (hP0.files.rows p hp).lt e
    omega
  refine wpAnyH_ready (rs := [5]) (by kernel_rfl) (by simp) ?_
  refine AllReadyH.cons rfl (fun K hK => ?_) AllReadyH.nil
  go_simp
  refine (put_any s (hP1.q _) hs r' hrow hap hu hml (by rw [hc]; simp; omega)).mono ?_
  rintro ex w2 ⟨rfl, hP2, hA2⟩
  dsimp only
  have hA3 : Away (fun b => b = a ∨ b = mb) wa w2 := (Away.of_new hb1 _).trans hA2 fun b e => .inl e
  refine hK.out _ _ hA3 (fun hHeld => ?_)
  clear hK K
  refine wpAnyH_done (by kernel_rfl) ?_ _
  go_wp2_with fail
  go_end0
  exact ⟨rfl, r', hc, fun b hb => Nat.le_trans hws (hnew b hb), hP2, hW.trans hA3 fun b e => .inl e⟩
end
end Go.Proofs.Ytebpdlggkncliaa

/-
  The disk's operations, as the document has them: an operation of an armed disk, of one that is not. (Made by dkop2_gen.py: the same text for each closure.)
-/
set_option linter.unusedVariables false
set_option linter.unusedSimpArgs false
namespace Go.Proofs.Ytebpdlggkncliaa
open Go.RowKit Go.Maps

theorem used_of {s : St} {ms : List (Nm × Raw)} (h : s.fs = amap Raw.c ms) : s.used = usedR ms := by
  unfold St.used usedR
  rw [h, asum_amap]

theorem op_Append {w0 W : World} {F : Nat → Prop} {a mb : Nat} {s : St} {ms : List (Nm × Raw)} {lv : Int} (hs : s.wf) (hd : s.down = false) (hp : DkP W a mb ms s.most s.left.isSome lv s.down) (hlv : ∀ n, s.left = some n → lv = (n : Int))
    (hfs : s.fs = amap Raw.c ms) (hA : Away F w0 W) (hfoot : ∀ b, Foot a mb ms b → F b) (f : List (Nm × Fc) → List (Nm × Fc)) (hwf : ({ s with fs := f s.fs } : St).wf) (p0 p1 p2 p3 : Addr)
    (hcl : ∀ W1 armed lv1, DkP W1 a mb ms s.most armed lv1 false → Away (fun b => b = a) W W1 → Calls Try.prog 64 #[.pointer (some p0), .pointer (some p1), .pointer (some p2), .pointer (some p3)] W1 fun e W' => e = .returned (.tuple #[]) ∧
      ∃ ms', amap Raw.c ms' = f s.fs ∧ DkP W' a mb ms' s.most armed lv1 false ∧ Away (fun b => F b ∨ w0.heap.size ≤ b) W1 W' ∧ ∀ b, Foot a mb ms' b → F b ∨ w0.heap.size ≤ b) :
    Calls Try.prog 63 #[.pointer (some ⟨a, 0, none⟩), .func (.func 64) #[] #[.pointer (some p0), .pointer (some p1), .pointer (some p2), .pointer (some p3)]] W fun e W' =>
      e = .returned (.int .i64 ((s.op f).2 : Int)) ∧ Turned w0 F a W' (s.op f).1 := by
  have hw2 := St.op_wf hs hd hwf
  rw [hd] at hp
  unfold St.op at hw2 ⊢
  cases hl : s.left with
  | none =>
    rw [hl] at hp hw2
    refine (operate_Append hp p0 p1 p2 p3 _ (hcl W false lv hp (Away.refl _ _))).mono ?_
    rintro e W' ⟨rfl, ms', hfs', hp', hA', hf'⟩
    exact ⟨rfl, Turned.mk' hw2 (hA.trans hA' fun b e => e) (lv := lv) (by show DkP W' a mb ms' s.most false lv s.down; rw [hd]; exact hp') (fun n e => by cases e) hfs'.symm hf'⟩
  | some n =>
    cases n with
    | zero =>
      have hlv0 : lv = 0 := by have := hlv 0 hl; omega
      rw [hl] at hp hw2
      subst hlv0
      refine (operate_off hp _).mono ?_
      rintro e W' ⟨rfl, hp', hA'⟩
      exact ⟨rfl, Turned.mk' hw2 (hA.trans hA' fun b e => .inl (hfoot b (.inl e))) (lv := 0) hp' (fun n e => by cases e) hfs fun b hb => .inl (hfoot b hb)⟩
    | succ n =>
      have hlv0 : lv = (n : Int) + 1 := by have := hlv (n + 1) hl; omega
      rw [hl] at hp hw2
      subst hlv0
      obtain ⟨hp1, hA1⟩ := hp.less (n : Int)
      refine (operateOn_Append hp (hs.arm (n + 1) hl) p0 p1 p2 p3 _ (hcl _ true n hp1 hA1)).mono ?_
      rintro e W' ⟨rfl, ms', hfs', hp', hA', hf'⟩
      exact ⟨rfl, Turned.mk' hw2 ((hA.trans hA1 fun b e => .inl (hfoot b (.inl e))).trans hA' fun b e => e) (lv := n) (by show DkP W' a mb ms' s.most true n s.down; rw [hd]; exact hp') (fun k e => by cases e; rfl) hfs'.symm hf'⟩

theorem op_Cut {w0 W : World} {F : Nat → Prop} {a mb : Nat} {s : St} {ms : List (Nm × Raw)} {lv : Int} (hs : s.wf) (hd : s.down = false) (hp : DkP W a mb ms s.most s.left.isSome lv s.down) (hlv : ∀ n, s.left = some n → lv = (n : Int))
    (hfs : s.fs = amap Raw.c ms) (hA : Away F w0 W) (hfoot : ∀ b, Foot a mb ms b → F b) (f : List (Nm × Fc) → List (Nm × Fc)) (hwf : ({ s with fs := f s.fs } : St).wf) (p0 p1 p2 p3 : Addr)
    (hcl : ∀ W1 armed lv1, DkP W1 a mb ms s.most armed lv1 false → Away (fun b => b = a) W W1 → Calls Try.prog 67 #[.pointer (some p0), .pointer (some p1), .pointer (some p2), .pointer (some p3)] W1 fun e W' => e = .returned (.tuple #[]) ∧
      ∃ ms', amap Raw.c ms' = f s.fs ∧ DkP W' a mb ms' s.most armed lv1 false ∧ Away (fun b => F b ∨ w0.heap.size ≤ b) W1 W' ∧ ∀ b, Foot a mb ms' b → F b ∨ w0.heap.size ≤ b) :
    Calls Try.prog 63 #[.pointer (some ⟨a, 0, none⟩), .func (.func 67) #[] #[.pointer (some p0), .pointer (some p1), .pointer (some p2), .pointer (some p3)]] W fun e W' =>
      e = .returned (.int .i64 ((s.op f).2 : Int)) ∧ Turned w0 F a W' (s.op f).1 := by
  have hw2 := St.op_wf hs hd hwf
  rw [hd] at hp
  unfold St.op at hw2 ⊢
  cases hl : s.left with
  | none =>
    rw [hl] at hp hw2
    refine (operate_Cut hp p0 p1 p2 p3 _ (hcl W false lv hp (Away.refl _ _))).mono ?_
    rintro e W' ⟨rfl, ms', hfs', hp', hA', hf'⟩
    exact ⟨rfl, Turned.mk' hw2 (hA.trans hA' fun b e => e) (lv := lv) (by show DkP W' a mb ms' s.most false lv s.down; rw [hd]; exact hp') (fun n e => by cases e) hfs'.symm hf'⟩
  | some n =>
    cases n with
    | zero =>
      have hlv0 : lv = 0 := by have := hlv 0 hl; omega
      rw [hl] at hp hw2
      subst hlv0
      refine (operate_off hp _).mono ?_
      rintro e W' ⟨rfl, hp', hA'⟩
      exact ⟨rfl, Turned.mk' hw2 (hA.trans hA' fun b e => .inl (hfoot b (.inl e))) (lv := 0) hp' (fun n e => by cases e) hfs fun b hb => .inl (hfoot b hb)⟩
    | succ n =>
      have hlv0 : lv = (n : Int) + 1 := by have := hlv (n + 1) hl; omega
      rw [hl] at hp hw2
      subst hlv0
      obtain ⟨hp1, hA1⟩ := hp.less (n : Int)
      refine (operateOn_Cut hp (hs.arm (n + 1) hl) p0 p1 p2 p3 _ (hcl _ true n hp1 hA1)).mono ?_
      rintro e W' ⟨rfl, ms', hfs', hp', hA', hf'⟩
      exact ⟨rfl, Turned.mk' hw2 ((hA.trans hA1 fun b e => .inl (hfoot b (.inl e))).trans hA' fun b e => e) (lv := n) (by show DkP W' a mb ms' s.most true n s.down; rw [hd]; exact hp') (fun k e => by cases e; rfl) hfs'.symm hf'⟩

theorem op_Sync {w0 W : World} {F : Nat → Prop} {a mb : Nat} {s : St} {ms : List (Nm × Raw)} {lv : Int} (hs : s.wf) (hd : s.down = false) (hp : DkP W a mb ms s.most s.left.isSome lv s.down) (hlv : ∀ n, s.left = some n → lv = (n : Int))
    (hfs : s.fs = amap Raw.c ms) (hA : Away F w0 W) (hfoot : ∀ b, Foot a mb ms b → F b) (f : List (Nm × Fc) → List (Nm × Fc)) (hwf : ({ s with fs := f s.fs } : St).wf) (p0 p1 p2 : Addr)
    (hcl : ∀ W1 armed lv1, DkP W1 a mb ms s.most armed lv1 false → Away (fun b => b = a) W W1 → Calls Try.prog 70 #[.pointer (some p0), .pointer (some p1), .pointer (some p2)] W1 fun e W' => e = .returned (.tuple #[]) ∧
      ∃ ms', amap Raw.c ms' = f s.fs ∧ DkP W' a mb ms' s.most armed lv1 false ∧ Away (fun b => F b ∨ w0.heap.size ≤ b) W1 W' ∧ ∀ b, Foot a mb ms' b → F b ∨ w0.heap.size ≤ b) :
    Calls Try.prog 63 #[.pointer (some ⟨a, 0, none⟩), .func (.func 70) #[] #[.pointer (some p0), .pointer (some p1), .pointer (some p2)]] W fun e W' =>
      e = .returned (.int .i64 ((s.op f).2 : Int)) ∧ Turned w0 F a W' (s.op f).1 := by
  have hw2 := St.op_wf hs hd hwf
  rw [hd] at hp
  unfold St.op at hw2 ⊢
  cases hl : s.left with
  | none =>
    rw [hl] at hp hw2
    refine (operate_Sync hp p0 p1 p2 _ (hcl W false lv hp (Away.refl _ _))).mono ?_
    rintro e W' ⟨rfl, ms', hfs', hp', hA', hf'⟩
    exact ⟨rfl, Turned.mk' hw2 (hA.trans hA' fun b e => e) (lv := lv) (by show DkP W' a mb ms' s.most false lv s.down; rw [hd]; exact hp') (fun n e => by cases e) hfs'.symm hf'⟩
  | some n =>
    cases n with
    | zero =>
      have hlv0 : lv = 0 := by have := hlv 0 hl; omega
      rw [hl] at hp hw2
      subst hlv0
      refine (operate_off hp _).mono ?_
      rintro e W' ⟨rfl, hp', hA'⟩
      exact ⟨rfl, Turned.mk' hw2 (hA.trans hA' fun b e => .inl (hfoot b (.inl e))) (lv := 0) hp' (fun n e => by cases e) hfs fun b hb => .inl (hfoot b hb)⟩
    | succ n =>
      have hlv0 : lv = (n : Int) + 1 := by have := hlv (n + 1) hl; omega
      rw [hl] at hp hw2
      subst hlv0
      obtain ⟨hp1, hA1⟩ := hp.less (n : Int)
      refine (operateOn_Sync hp (hs.arm (n + 1) hl) p0 p1 p2 _ (hcl _ true n hp1 hA1)).mono ?_
      rintro e W' ⟨rfl, ms', hfs', hp', hA', hf'⟩
      exact ⟨rfl, Turned.mk' hw2 ((hA.trans hA1 fun b e => .inl (hfoot b (.inl e))).trans hA' fun b e => e) (lv := n) (by show DkP W' a mb ms' s.most true n s.down; rw [hd]; exact hp') (fun k e => by cases e; rfl) hfs'.symm hf'⟩

theorem op_Remove {w0 W : World} {F : Nat → Prop} {a mb : Nat} {s : St} {ms : List (Nm × Raw)} {lv : Int} (hs : s.wf) (hd : s.down = false) (hp : DkP W a mb ms s.most s.left.isSome lv s.down) (hlv : ∀ n, s.left = some n → lv = (n : Int))
    (hfs : s.fs = amap Raw.c ms) (hA : Away F w0 W) (hfoot : ∀ b, Foot a mb ms b → F b) (f : List (Nm × Fc) → List (Nm × Fc)) (hwf : ({ s with fs := f s.fs } : St).wf) (p0 p1 : Addr)
    (hcl : ∀ W1 armed lv1, DkP W1 a mb ms s.most armed lv1 false → Away (fun b => b = a) W W1 → Calls Try.prog 71 #[.pointer (some p0), .pointer (some p1)] W1 fun e W' => e = .returned (.tuple #[]) ∧
      ∃ ms', amap Raw.c ms' = f s.fs ∧ DkP W' a mb ms' s.most armed lv1 false ∧ Away (fun b => F b ∨ w0.heap.size ≤ b) W1 W' ∧ ∀ b, Foot a mb ms' b → F b ∨ w0.heap.size ≤ b) :
    Calls Try.prog 63 #[.pointer (some ⟨a, 0, none⟩), .func (.func 71) #[] #[.pointer (some p0), .pointer (some p1)]] W fun e W' =>
      e = .returned (.int .i64 ((s.op f).2 : Int)) ∧ Turned w0 F a W' (s.op f).1 := by
  have hw2 := St.op_wf hs hd hwf
  rw [hd] at hp
  unfold St.op at hw2 ⊢
  cases hl : s.left with
  | none =>
    rw [hl] at hp hw2
    refine (operate_Remove hp p0 p1 _ (hcl W false lv hp (Away.refl _ _))).mono ?_
    rintro e W' ⟨rfl, ms', hfs', hp', hA', hf'⟩
    exact ⟨rfl, Turned.mk' hw2 (hA.trans hA' fun b e => e) (lv := lv) (by show DkP W' a mb ms' s.most false lv s.down; rw [hd]; exact hp') (fun n e => by cases e) hfs'.symm hf'⟩
  | some n =>
    cases n with
    | zero =>
      have hlv0 : lv = 0 := by have := hlv 0 hl; omega
      rw [hl] at hp hw2
      subst hlv0
      refine (operate_off hp _).mono ?_
      rintro e W' ⟨rfl, hp', hA'⟩
      exact ⟨rfl, Turned.mk' hw2 (hA.trans hA' fun b e => .inl (hfoot b (.inl e))) (lv := 0) hp' (fun n e => by cases e) hfs fun b hb => .inl (hfoot b hb)⟩
    | succ n =>
      have hlv0 : lv = (n : Int) + 1 := by have := hlv (n + 1) hl; omega
      rw [hl] at hp hw2
      subst hlv0
      obtain ⟨hp1, hA1⟩ := hp.less (n : Int)
      refine (operateOn_Remove hp (hs.arm (n + 1) hl) p0 p1 _ (hcl _ true n hp1 hA1)).mono ?_
      rintro e W' ⟨rfl, ms', hfs', hp', hA', hf'⟩
      exact ⟨rfl, Turned.mk' hw2 ((hA.trans hA1 fun b e => .inl (hfoot b (.inl e))).trans hA' fun b e => e) (lv := n) (by show DkP W' a mb ms' s.most true n s.down; rw [hd]; exact hp') (fun k e => by cases e; rfl) hfs'.symm hf'⟩

theorem op_Rename {w0 W : World} {F : Nat → Prop} {a mb : Nat} {s : St} {ms : List (Nm × Raw)} {lv : Int} (hs : s.wf) (hd : s.down = false) (hp : DkP W a mb ms s.most s.left.isSome lv s.down) (hlv : ∀ n, s.left = some n → lv = (n : Int))
    (hfs : s.fs = amap Raw.c ms) (hA : Away F w0 W) (hfoot : ∀ b, Foot a mb ms b → F b) (f : List (Nm × Fc) → List (Nm × Fc)) (hwf : ({ s with fs := f s.fs } : St).wf) (p0 p1 p2 p3 : Addr)
    (hcl : ∀ W1 armed lv1, DkP W1 a mb ms s.most armed lv1 false → Away (fun b => b = a) W W1 → Calls Try.prog 73 #[.pointer (some p0), .pointer (some p1), .pointer (some p2), .pointer (some p3)] W1 fun e W' => e = .returned (.tuple #[]) ∧
      ∃ ms', amap Raw.c ms' = f s.fs ∧ DkP W' a mb ms' s.most armed lv1 false ∧ Away (fun b => F b ∨ w0.heap.size ≤ b) W1 W' ∧ ∀ b, Foot a mb ms' b → F b ∨ w0.heap.size ≤ b) :
    Calls Try.prog 63 #[.pointer (some ⟨a, 0, none⟩), .func (.func 73) #[] #[.pointer (some p0), .pointer (some p1), .pointer (some p2), .pointer (some p3)]] W fun e W' =>
      e = .returned (.int .i64 ((s.op f).2 : Int)) ∧ Turned w0 F a W' (s.op f).1 := by
  have hw2 := St.op_wf hs hd hwf
  rw [hd] at hp
  unfold St.op at hw2 ⊢
  cases hl : s.left with
  | none =>
    rw [hl] at hp hw2
    refine (operate_Rename hp p0 p1 p2 p3 _ (hcl W false lv hp (Away.refl _ _))).mono ?_
    rintro e W' ⟨rfl, ms', hfs', hp', hA', hf'⟩
    exact ⟨rfl, Turned.mk' hw2 (hA.trans hA' fun b e => e) (lv := lv) (by show DkP W' a mb ms' s.most false lv s.down; rw [hd]; exact hp') (fun n e => by cases e) hfs'.symm hf'⟩
  | some n =>
    cases n with
    | zero =>
      have hlv0 : lv = 0 := by have := hlv 0 hl; omega
      rw [hl] at hp hw2
      subst hlv0
      refine (operate_off hp _).mono ?_
      rintro e W' ⟨rfl, hp', hA'⟩
      exact ⟨rfl, Turned.mk' hw2 (hA.trans hA' fun b e => .inl (hfoot b (.inl e))) (lv := 0) hp' (fun n e => by cases e) hfs fun b hb => .inl (hfoot b hb)⟩
    | succ n =>
      have hlv0 : lv = (n : Int) + 1 := by have := hlv (n + 1) hl; omega
      rw [hl] at hp hw2
      subst hlv0
      obtain ⟨hp1, hA1⟩ := hp.less (n : Int)
      refine (operateOn_Rename hp (hs.arm (n + 1) hl) p0 p1 p2 p3 _ (hcl _ true n hp1 hA1)).mono ?_
      rintro e W' ⟨rfl, ms', hfs', hp', hA', hf'⟩
      exact ⟨rfl, Turned.mk' hw2 ((hA.trans hA1 fun b e => .inl (hfoot b (.inl e))).trans hA' fun b e => e) (lv := n) (by show DkP W' a mb ms' s.most true n s.down; rw [hd]; exact hp') (fun k e => by cases e; rfl) hfs'.symm hf'⟩
end Go.Proofs.Ytebpdlggkncliaa

/-
  SameBytes, CopyBytes, Pick: what statements do with lists.
-/
set_option linter.unusedVariables false
set_option linter.unusedSimpArgs false
namespace Go.Proofs.Ytebpdlggkncliaa
open Go.RowKit

theorem str_same2 {l m : List UInt8} {s t : ByteArray} (hs : s = ⟨l.toArray⟩) (ht : t = ⟨m.toArray⟩) : (s.toList == t.toList) = decide (l = m) := by
  subst hs; subst ht
  rw [Lib.toList_data, Lib.toList_data]
  by_cases h : l = m
  · subst h; simp
  · rw [decide_eq_false h]
    exact beq_false_of_ne fun hh => h (by simpa using hh)
theorem conv_str (w : World) {A : Option Addr} {n c : Nat} {l : List UInt8} (h : IsB w A n c l) {s : ByteArray} (hs : s = ⟨l.toArray⟩) : (convert 26 9 (.slice A n c)).run Try.prog w = .ok (.string s) w := by
  subst hs
  exact run_str w 26 9 5 Try.underlying26 Try.underlying5 Try.underlying9 A n c l h

set_option maxRecDepth 100000 in
theorem samebytes_any {w : World} {A : Option Addr} {n c : Nat} {l : List UInt8} {B : Option Addr} {m d : Nat} {k : List UInt8} (h1 : IsB w A n c l) (h2 : IsB w B m d k) :
    Calls Try.prog 34 #[.slice A n c, .slice B m d] w fun e w' => e = .returned (.bool (decide (l = k))) ∧ w = w' := by
  obtain ⟨s, hs⟩ : ∃ s : ByteArray, s = ⟨l.toArray⟩ := ⟨_, rfl⟩
  obtain ⟨t, ht⟩ : ∃ s : ByteArray, s = ⟨k.toArray⟩ := ⟨_, rfl⟩
  have hE := str_same2 hs ht
  have f1 := conv_str w h1 hs
  have f2 := conv_str w h2 ht
  rw [← hE]
  clear hE hs ht
  go_enter Try.func34, Try.ntmps34
  go_wp2_with fail
  go_ret
  exact ⟨rfl, rfl⟩

end Go.Proofs.Ytebpdlggkncliaa

/-
  A piece of a function's code: from a region on.
-/
set_option linter.unusedVariables false
namespace Go.Proofs.Ytebpdlggkncliaa

def headIs (n : Nat) : Code → Bool
  | .region k _ _ => k == n
  | .seq a _ => headIs n a
  | _ => false
def fromRegion (n : Nat) : Code → Option Code
  | .seq a b => if headIs n a then some (.seq a b) else match fromRegion n a with
    | some c => some c
    | none => fromRegion n b
  | .block _ c => fromRegion n c
  | .loop c => fromRegion n c
  | .scope c => fromRegion n c
  | .cond _ a b => match fromRegion n a with
    | some c => some c
    | none => fromRegion n b
  | _ => none
end Go.Proofs.Ytebpdlggkncliaa

/-
  The sum: halvedFourTimes, laidOut, Crc, Seal, Unseal.
-/
namespace Go.Proofs.Ytebpdlggkncliaa
open Go.RowKit
open Go.Lib (byteCells byteCells_length byteCells_append)

/-- the table, filled up to the place j -/
def tabUp (j : Nat) : Array Value := (Array.range 16).map fun i => Value.int .u32 ((if i < j then halveN 4 i else 0 : Nat) : Int)
def theTab : Array Value := tabUp 16
theorem tabUp_get {j i : Nat} (hi : i < 16) : (tabUp j)[i]? = some (Value.int .u32 ((if i < j then halveN 4 i else 0 : Nat) : Int)) := by
  unfold tabUp
  rw [Array.getElem?_map, Array.getElem?_range, if_pos hi]
  rfl
theorem tab0 : tabUp 0 = #[.int .u32 0, .int .u32 0, .int .u32 0, .int .u32 0, .int .u32 0, .int .u32 0, .int .u32 0, .int .u32 0, .int .u32 0, .int .u32 0, .int .u32 0, .int .u32 0, .int .u32 0, .int .u32 0, .int .u32 0, .int .u32 0] := by kernel_rfl
theorem tabUp_set {j : Nat} : (tabUp j).setIfInBounds j (Value.int .u32 (halveN 4 j : Int)) = tabUp (j + 1) := by
  apply Array.ext_getElem?
  intro i
  by_cases hi : i < 16
  · by_cases he : j = i
    · subst he
      rw [Array.getElem?_setIfInBounds_self_of_lt (by simp [tabUp]; omega), tabUp_get hi, if_pos (by omega)]
    · rw [Array.getElem?_setIfInBounds_ne he, tabUp_get hi, tabUp_get hi]
      by_cases hlt : i < j
      · rw [if_pos hlt, if_pos (by omega)]
      · rw [if_neg hlt, if_neg (by omega)]
  · rw [Array.getElem?_eq_none (by simp [tabUp]; omega), Array.getElem?_eq_none (by simp [tabUp]; omega)]

/-- block g is just these cells -/
def Row (w : World) (g : Nat) (t : TypeId) (cs : Array Value) : Prop := w.heap[g]? = some (.cells cs t (0, 0))
theorem Row.lt {w : World} {g : Nat} {t : TypeId} {cs : Array Value} (h : Row w g t cs) : g < w.heap.size := by
  rcases Nat.lt_or_ge g w.heap.size with hlt | hge
  · exact hlt
  · unfold Row at h; rw [Array.getElem?_eq_none hge] at h; cases h
theorem Row.cell {w : World} {g : Nat} {t : TypeId} {cs : Array Value} (h : Row w g t cs) (i : Nat) : w.cell? ⟨g, i, none⟩ = cs[i]? := cell_of_row w g i cs t (0, 0) h
theorem Row.free {w : World} {g : Nat} {t : TypeId} {cs : Array Value} (h : Row w g t cs) (i : Nat) : w.frozen? ⟨g, i, none⟩ = false := by
  unfold Row at h
  simp [World.frozen?, h]
theorem Row.new (w : World) (t : TypeId) (cs : Array Value) : Row (w.alloc (.cells cs t)) w.heap.size t cs := heap_alloc_new w _
theorem Row.new_ {w : World} {g : Nat} (h : w.heap.size = g) (t : TypeId) (cs : Array Value) : Row (w.alloc (.cells cs t)) g t cs := by subst h; exact heap_alloc_new w _
theorem Row.below {w w' : World} {g : Nat} {t : TypeId} {cs : Array Value} (h : Row w g t cs) (hb : Below w.heap.size w w') : Row w' g t cs := (hb.block g h.lt).trans h
theorem Row.alloc {w : World} {g : Nat} {t : TypeId} {cs : Array Value} (h : Row w g t cs) (o : Obj) : Row (w.alloc o) g t cs := h.below ((Below.refl _ _).alloc (Nat.le_refl _) o)
theorem Row.far {w : World} {g : Nat} {t : TypeId} {cs : Array Value} (h : Row w g t cs) {p : Addr} (hp : g ≠ p.block) (u : Value) : Row (w.setCell p u) g t cs := (Below.heap_setCell w p u g hp).trans h
theorem Row.put {w : World} {g : Nat} {t : TypeId} {cs : Array Value} (h : Row w g t cs) (i : Nat) (u : Value) : Row (w.setCell ⟨g, i, none⟩ u) g t (cs.setIfInBounds i u) := by
  unfold Row at h ⊢
  simp [World.setCell, Array.getElem?_modify, h]

/-- a row stored over a row -/
theorem run_store_row {P : Program} {w : World} {g : Nat} {t : TypeId} {old cs : Array Value} (h : Row w g t old) (hs : cs.size = old.size) (h1 : ∀ v ∈ cs.toList, v.oneCell' = true) :
    (storeCells ⟨g, 0, none⟩ cs.toList).run P w = .ok () (w.setRow g cs) := by
  have hr := run_storeCells_at (P := P) g 0 t cs.toList 0 old w h (by simp; omega) h1
  have e : (old.toList.take (0 + 0) ++ cs.toList ++ old.toList.drop (0 + 0 + cs.toList.length)).toArray = cs := by
    rw [List.drop_of_length_le (by simp; omega)]
    simp
  rw [hr, e]
theorem Row.over {w : World} {g : Nat} {t : TypeId} {old cs : Array Value} (h : Row w g t old) : Row (w.setRow g cs) g t cs := setRow_heap w g old cs t (0, 0) h
theorem below_setRow {B : Nat} {w w' : World} {g : Nat} (cs : Array Value) (h : Below B w w') (hg : B ≤ g) : Below B w (w'.setRow g cs) :=
  h.trans ⟨rfl, rfl, rfl, by simp, fun k hk => setRow_other w' g k cs (by omega)⟩
theorem tabUp_one (j : Nat) : ∀ v ∈ (tabUp j).toList, v.oneCell' = true := by
  intro v hv
  simp only [tabUp, Array.toList_map, List.mem_map] at hv
  obtain ⟨i, _, rfl⟩ := hv
  rfl

set_option maxRecDepth 100000 in
set_option maxHeartbeats 400000 in
theorem halvedFour_any (w : World) :
    Calls Try.prog 156 #[] w fun e w' => e = .returned (.agg theTab) ∧ Below w.heap.size w w' := by
  go_enter Try.func156, Try.ntmps156
  go_wp2_with fail
  go_loopw [2, 3, 4] (fun _ _ i wr => ∃ j : Nat, i = .int .i64 (j : Int) ∧ j ≤ 16 ∧ Row wr (w.heap.size + 1) 189 (tabUp j) ∧ Below w.heap.size w wr ∧ w.heap.size + 1 < wr.heap.size ∧ Row wr w.heap.size 189 (tabUp 0)) (fun _ _ i _ => 16 - (intOf i).toNat)
  case atStart => rw [tab0]; exact ⟨0, rfl, by omega, by rw [tab0]; exact Row.new_ (by simp) _ _, ((Below.refl _ _).alloc (Nat.le_refl _) _).alloc (by simp) _, by simp, (Row.new _ _ _).alloc _⟩
  case round =>
    obtain ⟨j, rfl, hj, hR, hB, hz, hR0⟩ := hrel
    obtain ⟨wo, rfl⟩ : ∃ wo : World, wo = wr := ⟨_, rfl⟩
    by_cases hj16 : j < 16
    · have hcell := (hR.cell j).trans (tabUp_get hj16)
      have hfz := hR.free j
      have hjd : decide ((j : Int) < 16) = true := by simp; omega
      rw [if_neg (by omega)] at hcell
      go_wp2_with fail
      go_loop [3, 9] (fun v q => ∃ i : Nat, q = .int .i64 (i : Int) ∧ i ≤ 4 ∧ v = .int .u32 (halveN i j : Int)) (fun _ q => 4 - (intOf q).toNat)
      case atStart => exact ⟨0, rfl, by omega, rfl⟩
      case round =>
        obtain ⟨i, rfl, hi, rfl⟩ := hrel
        have hlt := halveN_lt i (u := j) (by omega)
        by_cases hi4 : i < 4
        · have H := Lib.hid (halveN_succ i j)
          generalize halveN i j = v at hlt H
          go_wp2_with (go_at_call 170; refine (halve_any v _ hlt).mono ?_; rintro e w' ⟨rfl, rfl⟩)
          go_round
          case rel => exact ⟨i + 1, by go_num, by omega, by rw [H.out]⟩
          case measure => simp [intOf]; omega
        · obtain rfl : i = 4 := by omega
          clear hlt
          have HS := Lib.hid (tabUp_set (j := j))
          generalize halveN 4 j = v at HS
          go_wp2_with fail
          go_roundw
          case rel => exact ⟨j + 1, by go_num, by omega, by rw [← HS.out]; exact hR.put j _, hB.setCell (by simp) _, by simpa using hz, hR0.far (by simp) _⟩
          case measure => simp [intOf]; omega
    · obtain rfl : j = 16 := by omega
      have hsz : (tabUp 16).size = 16 := by simp [tabUp]
      have hst := run_store_row (P := Try.prog) hR0 (cs := tabUp 16) (by simp [tabUp]) (tabUp_one 16)
      go_wp2_with (refine wpList_load_row rfl 189 _ rfl _ rfl _ _ _ _ hR rfl rfl (by kernel_rfl) ?_)
      have hb := below_setRow (tabUp 16) hB (Nat.le_refl _)
      exact bodyPost_ret (results_cell_row rfl _ _ w.heap.size _ _ _ _ rfl (hR0.over (cs := tabUp 16)) rfl rfl (by kernel_rfl)) rfl ⟨rfl, hb⟩

theorem laidOut_any (s : Nat) (w : World) (hs : s < 4294967296) :
    Calls Try.prog 130 #[.int .u32 (s : Int)] w fun e w' => e = .returned (.agg #[.int .u8 ((s : Int) / 16777216), .int .u8 ((s : Int) / 65536 % 256), .int .u8 ((s : Int) / 256 % 256), .int .u8 ((s : Int) % 256)]) ∧ Below w.heap.size w w' := by
  go_enter Try.func130, Try.ntmps130
  go_wp2_with fail
  go_rounds 5
  refine bodyPost_ret (v := .agg #[.int .u8 ((s : Int) / 16777216), .int .u8 ((s : Int) / 65536 % 256), .int .u8 ((s : Int) / 256 % 256), .int .u8 ((s : Int) % 256)]) (by simp [results, Try.results130, go_sem]) rfl ⟨rfl, ?_⟩
  go_grown
end Go.Proofs.Ytebpdlggkncliaa

/-
  Crc: the sum of bytes, for all bytes, in every world.
-/
namespace Go.Proofs.Ytebpdlggkncliaa
open Go.RowKit

theorem and15 (r : Nat) (h : r < 4294967296) : bits .and .u32 (r : Int) 15 = ((r % 16 : Nat) : Int) := by
  rw [show (15 : Int) = ((15 : Nat) : Int) by rfl, u32_and_nat _ _ h (by omega), nat_mask4]
theorem half4 (r : Nat) (h : r < 4294967296) : bits .xor .u32 ((r : Int) / 16) ((halveN 4 (r % 16) : Nat) : Int) = ((halveN 4 r : Nat) : Int) := by
  rw [show ((r : Int) / 16) = ((r / 16 : Nat) : Int) by omega, u32_xor_nat _ _ (by omega) (halveN_lt 4 (by omega)), ← halve4]
theorem xor_byte (r x : Nat) (h : r < 4294967296) (hx : x < 256) : bits .xor .u32 (r : Int) (x : Int) = ((r ^^^ x : Nat) : Int) := u32_xor_nat _ _ h (by omega)
theorem xor_ones32 (b : Nat) (hb : b < 2 ^ 32) : (2 ^ 32 - 1) ^^^ b = 2 ^ 32 - 1 - b := by
  apply Nat.eq_of_testBit_eq
  intro i
  rw [Nat.testBit_xor, Nat.testBit_two_pow_sub_one, show 2 ^ 32 - 1 - b = 2 ^ 32 - (b + 1) by omega, Nat.testBit_two_pow_sub_succ hb]
  by_cases hi : i < 32
  · simp [hi]
  · have : b.testBit i = false := Nat.testBit_lt_two_pow (Nat.lt_of_lt_of_le hb (Nat.pow_le_pow_right (by decide) (by omega)))
    simp [hi, this]
theorem xor_max32 (r : Nat) (h : r < 4294967296) : bits .xor .u32 IntKind.u32.max (r : Int) = ((4294967295 - r : Nat) : Int) := by
  have e2 : IntKind.u32.max = ((2 ^ 32 - 1 : Nat) : Int) := by decide
  rw [e2, u32_xor_nat _ _ (by decide) h, xor_ones32 r (by omega)]
theorem crcReg_snoc (r : Nat) {l : List UInt8} {k : Nat} {x : UInt8} (h : l[k]? = some x) : crcReg r (l.take (k + 1)) = crcStep (crcReg r (l.take k)) x.toNat := by
  obtain ⟨hk, e⟩ := List.getElem?_eq_some_iff.1 h
  rw [List.take_succ_eq_append_getElem hk, crcReg_append, e]
  rfl

set_option maxRecDepth 100000 in
set_option maxHeartbeats 400000 in
theorem crc_any (A : Option Addr) (n c : Nat) (l : List UInt8) (w : World) (h : IsB w A n c l) (hn : n ≤ 35184372088832) :
    Calls Try.prog 131 #[.slice A n c] w fun e w' => e = .returned (.int .u32 (crc l : Int)) ∧ Below w.heap.size w w' := by
  go_enter Try.func131, Try.ntmps131
  go_wp2_with fail
  refine (halvedFour_any w).mono ?_
  rintro e w1 ⟨rfl, hb⟩
  have h1 := h.below hb
  have hsz : theTab.size = 16 := by simp [theTab, tabUp]
  have hst := run_store_row (P := Try.prog) (Row.new w1 189 (tabUp 0)) (cs := theTab) (by simp [theTab, tabUp]) (tabUp_one 16)
  rw [tab0] at hst
  go_wp2_with fail
  have hR : Row ((w1.alloc (.cells (tabUp 0) 189)).setRow w1.heap.size theTab) w1.heap.size 189 (tabUp 16) := (Row.new w1 _ _).over
  have hB1 : Below w1.heap.size w1 ((w1.alloc (.cells (tabUp 0) 189)).setRow w1.heap.size theTab) := below_setRow _ ((Below.refl _ _).alloc (Nat.le_refl _) _) (Nat.le_refl _)
  have h2 := h1.below hB1
  have hB := hb.trans (hB1.mono hb.size)
  clear hst hsz h1 hB1 h hb
  rw [tab0] at hR h2 hB
  generalize (w1.alloc (.cells #[Value.int .u32 0, Value.int .u32 0, Value.int .u32 0, Value.int .u32 0, Value.int .u32 0, Value.int .u32 0, Value.int .u32 0, Value.int .u32 0, Value.int .u32 0, Value.int .u32 0, Value.int .u32 0, Value.int .u32 0, Value.int .u32 0, Value.int .u32 0, Value.int .u32 0, Value.int .u32 0] 189)).setRow w1.heap.size theTab = W at hR h2 hB ⊢
  generalize w1.heap.size = g at hR ⊢
  obtain ⟨hl, hcap, hnone, hsrc⟩ := h2
  go_loop [4, 10] (fun q i => ∃ k : Nat, i = .int .i64 (k : Int) ∧ k ≤ n ∧ q = .int .u32 (crcReg 4294967295 (l.take k) : Int)) (fun _ i => n - (intOf i).toNat)
  case atStart => exact ⟨0, rfl, by omega, rfl⟩
  case round =>
    obtain ⟨k, rfl, hk, rfl⟩ := hrel
    have hr := crcReg_lt (l.take k) (r := 4294967295) (by decide)
    by_cases hlt : k < n
    · have HX : Hid (l[k]? = some (l[k]'(by omega))) := List.getElem?_eq_getElem _
      generalize l[k]'(by omega) = x at HX
      obtain ⟨b, o, rfl, hc⟩ : ∃ b o, A = some ⟨b, o, none⟩ ∧ W.cell? ⟨b, o + k, none⟩ = some (.int .u8 (x.toNat : Int)) := by
        rcases hsrc with rfl | ⟨b, o, hA, hc⟩
        · simp at hl; omega
        · exact ⟨b, o, hA, hc _ _ HX.out⟩
      have HS := Lib.hid (crcReg_snoc 4294967295 HX.out)
      have hxb : x.toNat < 256 := x.toNat_lt
      generalize crcReg 4294967295 (l.take k) = r at hr HS
      generalize x.toNat = y at hc HS hxb
      have hxor := xor_byte r y hr hxb
      have hq : r ^^^ y < 4294967296 := Nat.xor_lt_two_pow (n := 32) (by omega) (by omega)
      have HC : Hid (crcStep r y = halveN 8 (r ^^^ y)) := rfl
      generalize r ^^^ y = q at hxor hq HC
      go_wp2_with fail
      clear hxor
      go_loop [4, 18] (fun q' i => ∃ j : Nat, i = .int .i64 (j : Int) ∧ j ≤ 2 ∧ q' = .int .u32 (halveN (4 * j) q : Int)) (fun _ i => 2 - (intOf i).toNat)
      case atStart => exact ⟨0, rfl, by omega, rfl⟩
      case round =>
        obtain ⟨j, rfl, hj, rfl⟩ := hrel
        have hlt2 := halveN_lt (4 * j) (u := q) hq
        by_cases hj2 : j < 2
        · have HT : Hid (halveN (4 * (j + 1)) q = halveN 4 (halveN (4 * j) q)) := by
            unfold Hid
            rw [show 4 * (j + 1) = 4 + 4 * j by omega, halveN_add]
          clear hc
          generalize halveN (4 * j) q = v at hlt2 HT
          have ha := and15 v hlt2
          have hx4 := half4 v hlt2
          have hcell := (hR.cell (v % 16)).trans (tabUp_get (by omega))
          rw [if_pos (by omega)] at hcell
          have hm : v % 16 < 16 := by omega
          generalize v % 16 = m at ha hx4 hcell hm
          generalize halveN 4 m = t at hx4 hcell
          generalize halveN 4 v = z at hx4 HT
          go_wp2_with fail
          go_round
          case rel => exact ⟨j + 1, by go_num, by omega, by rw [HT.out]⟩
          case measure => simp [intOf]; omega
        · obtain rfl : j = 2 := by omega
          clear hc hlt2
          have HZ : Hid (crcReg 4294967295 (l.take (k + 1)) = halveN (4 * 2) q) := by
            unfold Hid
            rw [HS.out, HC.out]
          generalize halveN (4 * 2) q = z at HZ
          go_wp2_with fail
          go_round
          case rel => exact ⟨k + 1, by go_num, by omega, by rw [HZ.out]⟩
          case measure => simp [intOf]; omega
    · obtain rfl : k = n := by omega
      have HE : Hid (bits .xor .u32 IntKind.u32.max (crcReg 4294967295 (l.take k) : Int) = ((crc l : Nat) : Int)) := by
        unfold Hid
        rw [xor_max32 _ hr]
        unfold crc
        rw [List.take_of_length_le (by omega)]
      generalize crcReg 4294967295 (l.take k) = r at hr HE
      go_wp2_with fail
      go_ret
      exact ⟨by rw [← HE.out]; rfl, hB⟩
end Go.Proofs.Ytebpdlggkncliaa

/-
  Uint: out, and behind it the number laid out, in memory of the call's own.
-/
namespace Go.Proofs.Ytebpdlggkncliaa
open Go.RowKit
open Go.Lib (byteCells byteCells_length byteCells_append uvarint uvarint_small uvarint_big)

theorem infoByte : (Try.prog.info? 5).map (fun i => (i.zero, i.size, i.bytes)) = some (some (.int .u8 0), 1, 1) := by kernel_rfl

theorem low_small (m : Nat) (h : m < 128) : IntKind.u8.wrap (m : Int) = (m : Int) := by
  rw [IntKind.wrap_u8']; omega

theorem byteVal (m : Nat) : (((m % 128 + 128).toUInt8).toNat : Int) = (m : Int) % 128 + 128 := by
  have : ((m % 128 + 128).toUInt8).toNat = m % 128 + 128 := by simp [Nat.toUInt8, UInt8.toNat_ofNat']; omega
  omega
theorem byteLow (m : Nat) (h : m < 128) : ((m.toUInt8).toNat : Int) = (m : Int) := by
  have : (m.toUInt8).toNat = m := by simp [Nat.toUInt8, UInt8.toNat_ofNat']; omega
  omega
theorem byteVal' (m : Nat) : (((m % 128 + 128).toUInt8).toNat : Int) = bits .or .u8 ((m : Int) % 256) 128 := by
  rw [byteVal, Lib.u8_or128_any _ (by omega) (by omega)]
  omega
/-- the byte that was just laid in a block of its own -/
theorem new_byte {u : UInt8} {q : Int} (w : World) (t : TypeId) (h : (u.toNat : Int) = q) :
    ∀ j u', [u][j]? = some u' → (w.alloc (.cells #[.int .u8 q] t)).cell? ((⟨w.heap.size, 0, none⟩ : Addr).add j) = some (.int .u8 (u'.toNat : Int)) := by
  intro j u' hj
  match j, hj with
  | 0, hj => simp at hj; subst hj; simp [Addr.add, h]
theorem uint_step {l l' : List UInt8} {x m : Nat} (h : l ++ uvarint x = l' ++ uvarint m) (hm : 128 ≤ m) : l ++ uvarint x = (l' ++ [(m % 128 + 128).toUInt8]) ++ uvarint (m / 128) := by
  rw [h, uvarint_big hm, List.append_assoc]
  rfl
theorem uint_room {l l' : List UInt8} {n m x : Nat} (hl : l.length = n) (hx : x < 18446744073709551616) (hn : n ≤ 35184372088832) (h : l ++ uvarint x = l' ++ uvarint m) : l'.length + 1 ≤ 35184372088832 + 10 := by
  have e := congrArg List.length h
  rw [List.length_append, List.length_append] at e
  have h1 := Lib.uvarint_length64 hx
  have h2 := Lib.uvarint_pos m
  omega

set_option maxRecDepth 100000 in
set_option maxHeartbeats 400000 in
theorem uint_any (A : Option Addr) (n c x : Nat) (l : List UInt8) (w : World) (h : IsB w A n c l) (hn : n ≤ 35184372088832) (hx : x < 18446744073709551616) :
    Calls Try.prog 95 #[.slice A n c, .int .u64 (x : Int)] w fun e w' =>
      ∃ v, e = .returned v ∧ Own w' w.heap.size 5 v (l ++ uvarint x) ∧ Below w.heap.size w w' := by
  obtain ⟨i0, hi, hz0, hz1, hz2⟩ := info_parts infoByte
  obtain ⟨hl, hcap, hnone, hsrc⟩ := h
  have H0 : Full w w.heap.size 5 (.slice A n n) l := by subst hl; exact .inr ⟨A, rfl, fun e => List.eq_nil_of_length_eq_zero (by have := hnone e; omega), hsrc⟩
  clear hsrc hnone
  go_enter Try.func95, Try.ntmps95
  go_wp2_with (go_at_call 103; refine (clip_any _ _ _ _ hcap).mono ?_; rintro e w' ⟨rfl, rfl⟩)
  go_loopw [0, 1] (fun o i wr => ∃ (m : Nat) (l' : List UInt8), i = .int .u64 (m : Int) ∧ m < 18446744073709551616 ∧ Hid (l ++ uvarint x = l' ++ uvarint m) ∧ Full wr w.heap.size 5 o l' ∧ Below w.heap.size w wr)
    (fun _ i _ => (intOf i).toNat)
  case atStart => exact ⟨x, l, rfl, hx, rfl, H0, Below.refl _ _⟩
  case round =>
    obtain ⟨m, l', rfl, hm, hL, hF, hB⟩ := hrel
    have hlen : l'.length + 1 ≤ 35184372088832 + 10 := uint_room hl hx hn hL.out
    clear H0 hl hx hcap hn
    have hB1 := hB.size
    by_cases hge : 128 ≤ m
    · obtain ⟨q, hq⟩ : ∃ q : UInt8, Hid (q = (m % 128 + 128).toUInt8) := ⟨_, rfl⟩
      go_wp2_with (at_builtin; refine wpList_put _ rfl _ _ 26 rfl 5 i0 Try.underlying26 hi hz0 hz1 hz2 w.heap.size _ l' rfl (hF.below ((Below.refl _ _).alloc (Nat.le_refl _) _)) _ 1 1 [q] rfl rfl (by decide) ?c1 ?c2 ?c3 ?_)
      case c1 => exact new_byte _ _ (by rw [hq.out]; exact byteVal' m)
      case c2 => omega
      case c3 => simp; omega
      intro v' w' hown hb
      go_wp2
      go_roundw
      case rel => exact ⟨m / 128, l' ++ [q], by go_num, by omega, by rw [hq.out]; exact uint_step hL.out hge, .inl hown, (hB.alloc hB1 _).trans hb⟩
      case measure => simp [intOf]; omega
    · have hlow := low_small m (by omega)
      go_wp2_with (at_builtin; refine wpList_put _ rfl _ _ 26 rfl 5 i0 Try.underlying26 hi hz0 hz1 hz2 w.heap.size _ l' rfl (hF.below ((Below.refl _ _).alloc (Nat.le_refl _) _)) _ 1 1 [m.toUInt8] rfl rfl (by decide) ?c1 ?c2 ?c3 ?_)
      case c1 => exact new_byte _ _ (byteLow m (by omega))
      case c2 => omega
      case c3 => simp; omega
      intro v' w' hown hb
      clear hlow
      go_wp2
      go_ret
      dsimp only [Array.getD]
      rw [← uvarint_small (show m < 128 by omega), ← hL.out] at hown
      exact ⟨_, rfl, hown, (hB.alloc hB1 _).trans hb⟩
end Go.Proofs.Ytebpdlggkncliaa

/-
  GetUint, GetInt, Int: what is laid out at a place.
-/
namespace Go.Proofs.Ytebpdlggkncliaa
open Go.RowKit
open Go.Lib (byteCells byteCells_length byteCells_append uvarint uvarint_small uvarint_big)

theorem int_any (A : Option Addr) (n c : Nat) (x : Int) (l : List UInt8) (w : World) (h : IsB w A n c l) (hn : n ≤ 35184372088832) (h0 : -9223372036854775808 ≤ x) (h1 : x ≤ 9223372036854775807) :
    Calls Try.prog 135 #[.slice A n c, .int .i64 x] w fun e w' =>
      ∃ v, e = .returned v ∧ Own w' w.heap.size 5 v (l ++ uvarint (Lib.zigzag x)) ∧ Below w.heap.size w w' := by
  have hz := Lib.zigzag_lt h0 h1
  go_enter Try.func135, Try.ntmps135
  go_wp2_with fail
  refine (fold_any _ _ h0 h1).mono ?_
  rintro e w' ⟨rfl, rfl⟩
  go_wp2_with fail
  refine (uint_any A n c (Lib.zigzag x) l _ h hn hz).mono ?_
  rintro e w' ⟨v, rfl, ho, hb⟩
  go_wp2_with fail
  go_ret
  exact ⟨_, rfl, ho, hb⟩

/- ## What is laid out at a place, as a plain function -/
def scan : Nat → Nat → Nat → List UInt8 → Nat × Nat × Nat
  | 0, _, _, _ => (0, 0, 10)
  | _ + 1, _, _, [] => (0, 0, 11)
  | f + 1, i, acc, x :: r =>
    if mayB x.toNat i then
      if x.toNat < 128 then (acc + x.toNat % 128 * 2 ^ (7 * i), i + 1, 0) else scan f (i + 1) (acc + x.toNat % 128 * 2 ^ (7 * i)) r
    else (0, 0, 10)
/-- the number, how many bytes it has, the error -/
def getU (l : List UInt8) : Nat × Nat × Nat := scan 10 0 0 l
/-- GetUint's three answers, at a place that there is -/
def nextU (at_ : Nat) (q : Nat × Nat × Nat) : Nat := if q.2.2 = 0 then at_ + q.2.1 else 0
def ansU (at_ : Nat) (q : Nat × Nat × Nat) : Value := .tuple #[.int .u64 (q.1 : Int), .int .i64 (nextU at_ q : Int), .int .i64 (q.2.2 : Int)]
/-- GetInt's -/
def ansI (at_ : Nat) (q : Nat × Nat × Nat) : Value := .tuple #[.int .i64 (Lib.unzigzag q.1), .int .i64 (nextU at_ q : Int), .int .i64 (q.2.2 : Int)]

theorem pow7_le {j : Nat} (h : j < 9) : 2 ^ (7 * j) ≤ 72057594037927936 := by
  have := Nat.pow_le_pow_right (n := 2) (by decide) (show 7 * j ≤ 56 by omega)
  simpa using this
theorem seven_lt {acc j x : Nat} (hacc : acc < 2 ^ (7 * j)) : acc + x % 128 * 2 ^ (7 * j) < 2 ^ (7 * (j + 1)) := by
  have h1 : x % 128 * 2 ^ (7 * j) ≤ 127 * 2 ^ (7 * j) := Nat.mul_le_mul_right _ (by omega)
  rw [show 7 * (j + 1) = 7 * j + 7 by omega, Nat.pow_add]
  omega
theorem seven_or {acc j x : Nat} (hacc : acc < 2 ^ (7 * j)) (hj : j < 10) (hx : x < 256) (hm : mayB x j = true) :
    bits .or .u64 (acc : Int) (IntKind.u64.wrap (IntKind.u64.wrap (bits .andNot .u8 (x : Int) 128) * 2 ^ (7 * j))) = ((acc + x % 128 * 2 ^ (7 * j) : Nat) : Int) := by
  have e1 : bits .andNot .u8 (x : Int) 128 = ((x % 128 : Nat) : Int) := by
    rw [show (128 : Int) = ((128 : Nat) : Int) by rfl, u8_andNot_nat x 128 hx (by omega)]
    exact congrArg _ (nat_mask7 x)
  have hp : x % 128 * 2 ^ (7 * j) < 18446744073709551616 ∧ acc < 18446744073709551616 := by
    by_cases h9 : j < 9
    · have h2 := pow7_le h9
      have h1 : x % 128 * 2 ^ (7 * j) ≤ 127 * 2 ^ (7 * j) := Nat.mul_le_mul_right _ (by omega)
      omega
    · obtain rfl : j = 9 := by omega
      unfold mayB at hm
      by_cases h0 : x = 0
      · subst h0; simp at hm
      · rw [if_neg h0] at hm
        have : x = 1 := by simpa using hm
        subst this
        simp at hacc ⊢
        omega
  rw [e1, IntKind.wrap_u64 ((x % 128 : Nat) : Int), show (((x % 128 : Nat) : Int) % 18446744073709551616) = ((x % 128 : Nat) : Int) by omega]
  rw [show ((x % 128 : Nat) : Int) * 2 ^ (7 * j) = ((x % 128 * 2 ^ (7 * j) : Nat) : Int) by push_cast; rfl]
  rw [IntKind.wrap_u64, show ((x % 128 * 2 ^ (7 * j) : Nat) : Int) % 18446744073709551616 = ((x % 128 * 2 ^ (7 * j) : Nat) : Int) by omega]
  rw [u64_or_nat _ _ hp.2 hp.1, Nat.or_comm, nat_join (7 * j) _ _ (Nat.mul_mod_left _ _) hacc, Nat.add_comm]

theorem drop_cons {l : List UInt8} {k : Nat} {x : UInt8} (h : l[k]? = some x) : l.drop k = x :: l.drop (k + 1) := by
  obtain ⟨hk, e⟩ := List.getElem?_eq_some_iff.1 h
  rw [List.drop_eq_getElem_cons hk, e]
theorem scan_bad {l : List UInt8} {k j acc : Nat} {x : UInt8} (hj : j < 10) (h : l[k + j]? = some x) (hm : mayB x.toNat j = false) : scan (10 - j) j acc (l.drop (k + j)) = (0, 0, 10) := by
  rw [drop_cons h, show 10 - j = (9 - j) + 1 by omega]
  simp [scan, hm]
theorem scan_end {l : List UInt8} {k j acc : Nat} {x : UInt8} (hj : j < 10) (h : l[k + j]? = some x) (hm : mayB x.toNat j = true) (hx : x.toNat < 128) : scan (10 - j) j acc (l.drop (k + j)) = (acc + x.toNat % 128 * 2 ^ (7 * j), j + 1, 0) := by
  rw [drop_cons h, show 10 - j = (9 - j) + 1 by omega]
  simp [scan, hm, hx]
theorem scan_on {l : List UInt8} {k j acc : Nat} {x : UInt8} (hj : j < 10) (h : l[k + j]? = some x) (hm : mayB x.toNat j = true) (hx : ¬ x.toNat < 128) : scan (10 - j) j acc (l.drop (k + j)) = scan (10 - (j + 1)) (j + 1) (acc + x.toNat % 128 * 2 ^ (7 * j)) (l.drop (k + (j + 1))) := by
  rw [drop_cons h, show 10 - j = (9 - j) + 1 by omega, show 10 - (j + 1) = 9 - j by omega]
  simp only [scan, hm, hx, ↓reduceIte]
  rfl
theorem scan_short {l : List UInt8} {j acc k : Nat} (hj : j < 10) (h : l.length ≤ k) : scan (10 - j) j acc (l.drop k) = (0, 0, 11) := by
  rw [List.drop_of_length_le h, show 10 - j = (9 - j) + 1 by omega]
  rfl

set_option maxRecDepth 100000 in
set_option maxHeartbeats 400000 in
theorem getUint_any (A : Option Addr) (n c k : Nat) (l : List UInt8) (w : World) (h : IsB w A n c l) (hn : n ≤ 35184372088832) (hk : k ≤ n) :
    Calls Try.prog 98 #[.slice A n c, .int .i64 (k : Int)] w fun e w' =>
      e = .returned (ansU k (getU (l.drop k))) ∧ w = w' := by
  obtain ⟨hl, hcap, hnone, hsrc⟩ := h
  have t1 : ((k : Int) < 0) = False := by simp
  have t2 : ((n : Int) < (k : Int)) = False := by simp; omega
  go_enter Try.func98, Try.ntmps98
  go_wp2_with fail
  go_loop [7, 18] (fun a i => ∃ j acc : Nat, i = .int .i64 (j : Int) ∧ a = .int .u64 (acc : Int) ∧ j ≤ 10 ∧ k + j ≤ n ∧ acc < 2 ^ (7 * j) ∧ Hid (ansU k (getU (l.drop k)) = ansU k (scan (10 - j) j acc (l.drop (k + j)))))
    (fun _ i => 10 - (intOf i).toNat)
  case atStart => exact ⟨0, 0, rfl, rfl, by omega, by omega, by decide, rfl⟩
  case round =>
    obtain ⟨j, acc, rfl, rfl, hj, hkj, hacc, hS⟩ := hrel
    clear t1 t2
    have HA := Lib.hid hacc
    clear hacc
    by_cases hj10 : j < 10
    · by_cases hend : k + j < n
      · have HX : Hid (l[k + j]? = some (l[k + j]'(by omega))) := List.getElem?_eq_getElem _
        generalize l[k + j]'(by omega) = x at HX
        obtain ⟨b, o, rfl, hc⟩ : ∃ b o, A = some ⟨b, o, none⟩ ∧ w.cell? ⟨b, o + (k + j), none⟩ = some (.int .u8 (x.toNat : Int)) := by
          rcases hsrc with rfl | ⟨b, o, hA, hc⟩
          · simp at hl; omega
          · exact ⟨b, o, hA, hc _ _ HX.out⟩
        have hx := x.toNat_lt
        have hxb : x.toNat < 256 := hx
        clear hx
        cases hm : mayB x.toNat j with
        | false =>
          have HM := Lib.hid hm
          clear hm
          go_wp2_with (go_at_call 132; refine (mayStand_any x.toNat j _ hxb hj10).mono ?_; rintro e w' ⟨rfl, rfl⟩; rw [HM.out])
          refine bodyPost_ret (v := ansU k (0, 0, 10)) (by simp [results, Try.results98, go_sem, ansU, nextU]) rfl ⟨?_, rfl⟩
          rw [hS.out, scan_bad hj10 HX.out HM.out]
        | true =>
          have HM := Lib.hid hm
          clear hm
          have hq := seven_or HA.out hj10 hxb HM.out
          have hq2 := seven_lt (x := x.toNat) HA.out
          generalize hgen : acc + x.toNat % 128 * 2 ^ (7 * j) = acc' at hq hq2
          have HG := Lib.hid hgen
          have HQ := Lib.hid hq
          have HQ2 := Lib.hid hq2
          clear hgen hq hq2
          by_cases hlow : x.toNat < 128
          · go_wp2_with (go_at_call 132; refine (mayStand_any x.toNat j _ hxb hj10).mono ?_; rintro e w' ⟨rfl, rfl⟩; rw [HM.out])
            refine bodyPost_ret (v := ansU k (acc', j + 1, 0)) (by simp [results, Try.results98, go_sem, ansU, nextU, HQ.out]; omega) rfl ⟨?_, rfl⟩
            rw [hS.out, scan_end hj10 HX.out HM.out hlow, HG.out]
          · go_wp2_with (go_at_call 132; refine (mayStand_any x.toNat j _ hxb hj10).mono ?_; rintro e w' ⟨rfl, rfl⟩; rw [HM.out])
            refine ⟨⟨j + 1, acc', by go_num, by rw [HQ.out], by omega, by omega, HQ2.out, ?_⟩, by simp [intOf]; omega⟩
            unfold Hid
            rw [hS.out, scan_on hj10 HX.out HM.out hlow, HG.out]
      · obtain rfl : n = k + j := by omega
        go_wp2
        refine bodyPost_ret (v := ansU k (0, 0, 11)) (by simp [results, Try.results98, go_sem, ansU, nextU]) rfl ⟨?_, rfl⟩
        rw [hS.out, scan_short hj10 (by omega)]
    · obtain rfl : j = 10 := by omega
      go_wp2
      refine bodyPost_ret (v := ansU k (0, 0, 10)) (by simp [results, Try.results98, go_sem, ansU, nextU]) rfl ⟨?_, rfl⟩
      rw [hS.out]
      rfl

/-- at a place that there is not -/
theorem getUint_out (A : Option Addr) (n c : Nat) (k : Int) (w : World) (hk : k < 0 ∨ (n : Int) < k) :
    Calls Try.prog 98 #[.slice A n c, .int .i64 k] w fun e w' => e = .returned (ansU 0 (0, 0, 2)) ∧ w = w' := by
  by_cases h0 : k < 0
  · clear hk
    go_enter Try.func98, Try.ntmps98
    go_wp2
    refine bodyPost_ret (v := ansU 0 (0, 0, 2)) (by simp [results, Try.results98, go_sem, ansU, nextU]) rfl ⟨rfl, rfl⟩
  · have h1 : (n : Int) < k := by omega
    clear hk
    go_enter Try.func98, Try.ntmps98
    go_wp2
    refine bodyPost_ret (v := ansU 0 (0, 0, 2)) (by simp [results, Try.results98, go_sem, ansU, nextU]) rfl ⟨rfl, rfl⟩

theorem scan_lt : ∀ (f j acc : Nat) (l : List UInt8), f + j = 10 → acc < 2 ^ (7 * j) → (scan f j acc l).1 < 18446744073709551616
  | 0, _, _, _, _, _ => by simp [scan]
  | f + 1, j, acc, [], _, _ => by simp [scan]
  | f + 1, j, acc, x :: r, hf, hacc => by
    rw [scan]
    cases hm : mayB x.toNat j with
    | false => simp
    | true =>
      rw [if_pos rfl]
      by_cases hx : x.toNat < 128
      · rw [if_pos hx]
        show acc + x.toNat % 128 * 2 ^ (7 * j) < _
        have h3 := seven_lt (x := x.toNat) hacc
        by_cases h9 : j < 9
        · have h4 := Nat.pow_le_pow_right (n := 2) (by decide) (show 7 * (j + 1) ≤ 63 by omega)
          have : (2 : Nat) ^ 63 = 9223372036854775808 := by decide
          omega
        · obtain rfl : j = 9 := by omega
          unfold mayB at hm
          by_cases h0 : x.toNat = 0
          · rw [h0] at hm; simp at hm
          · rw [if_neg h0] at hm
            have h1 : x.toNat = 1 := by simpa using hm
            rw [h1]
            simp at hacc ⊢
            omega
      · rw [if_neg hx]
        exact scan_lt f (j + 1) _ r (by omega) (seven_lt hacc)
theorem getU_lt (l : List UInt8) : (getU l).1 < 18446744073709551616 := scan_lt 10 0 0 l rfl (by decide)
theorem scan_bits : ∀ (f j acc : Nat) (l : List UInt8), (scan f j acc l).2.2 = 0 ∨ ((scan f j acc l).1 = 0 ∧ (scan f j acc l).2.1 = 0)
  | 0, _, _, _ => .inr ⟨rfl, rfl⟩
  | f + 1, j, acc, [] => .inr ⟨rfl, rfl⟩
  | f + 1, j, acc, x :: r => by
    rw [scan]
    split
    · split
      · exact .inl rfl
      · exact scan_bits f _ _ r
    · exact .inr ⟨rfl, rfl⟩

theorem getInt_of {A : Option Addr} {n c : Nat} {k : Int} {at_ : Nat} {q : Nat × Nat × Nat} {w : World} (hq : q.1 < 18446744073709551616)
    (h : Calls Try.prog 98 #[.slice A n c, .int .i64 k] w fun e w' => e = .returned (ansU at_ q) ∧ w = w') :
    Calls Try.prog 91 #[.slice A n c, .int .i64 k] w fun e w' => e = .returned (ansI at_ q) ∧ w = w' := by
  have H := Lib.hid h
  clear h
  unfold ansI
  unfold ansU at H
  generalize nextU at_ q = x at H
  obtain ⟨a, b, e⟩ := q
  dsimp only at H hq ⊢
  go_enter Try.func91, Try.ntmps91
  go_wp2_with (first
    | (go_at_call 98; refine H.out.mono ?_; rintro e w' ⟨rfl, rfl⟩)
    | (go_at_call 129; refine (unfold_any a _ hq).mono ?_; rintro e w' ⟨rfl, rfl⟩))
  go_ret3
  exact ⟨rfl, rfl⟩
theorem getInt_any (A : Option Addr) (n c k : Nat) (l : List UInt8) (w : World) (h : IsB w A n c l) (hn : n ≤ 35184372088832) (hk : k ≤ n) :
    Calls Try.prog 91 #[.slice A n c, .int .i64 (k : Int)] w fun e w' => e = .returned (ansI k (getU (l.drop k))) ∧ w = w' :=
  getInt_of (getU_lt _) (getUint_any A n c k l w h hn hk)
theorem getInt_out (A : Option Addr) (n c : Nat) (k : Int) (w : World) (hk : k < 0 ∨ (n : Int) < k) :
    Calls Try.prog 91 #[.slice A n c, .int .i64 k] w fun e w' => e = .returned (ansI 0 (0, 0, 2)) ∧ w = w' :=
  getInt_of (by decide) (getUint_out A n c k w hk)

/- ## What is laid out is had back -/
theorem byte_toNat {a : Nat} (h : a < 256) : (a.toUInt8).toNat = a := by simp [Nat.toUInt8, UInt8.toNat_ofNat']; omega
theorem scan_uvarint : ∀ (f j x acc : Nat) (r : List UInt8), f + j = 10 → 0 < f → (j = 0 ∨ 0 < x) → x * 2 ^ (7 * j) < 18446744073709551616 →
    scan f j acc (uvarint x ++ r) = (acc + x * 2 ^ (7 * j), j + (uvarint x).length, 0)
  | 0, _, _, _, _, _, h, _, _ => by omega
  | f + 1, j, x, acc, r, hf, _, hx0, hx => by
    have h9 : j = 9 → x < 2 := by
      rintro rfl
      rw [show 2 ^ (7 * 9) = 9223372036854775808 by decide] at hx
      omega
    by_cases hs : x < 128
    · rw [uvarint_small hs]
      have hb : (x.toUInt8).toNat = x := byte_toNat (by omega)
      have hm : mayB x j = true := by
        unfold mayB
        by_cases h0 : x = 0
        · rw [if_pos h0]; simp; omega
        · rw [if_neg h0]
          by_cases hj : j < 9
          · simp [hj]
          · have := h9 (by omega)
            have : x = 1 := by omega
            simp [this]
      rw [List.singleton_append, scan, hb, if_pos hm, if_pos hs, Nat.mod_eq_of_lt hs]
      rfl
    · rw [uvarint_big (by omega)]
      have hb : ((x % 128 + 128).toUInt8).toNat = x % 128 + 128 := byte_toNat (by omega)
      have hj : j < 9 := by
        by_cases hj : j < 9
        · exact hj
        · have := h9 (by omega); omega
      have hm : mayB (x % 128 + 128) j = true := by
        unfold mayB
        rw [if_neg (by omega)]
        simp [hj]
      have hp : 2 ^ (7 * (j + 1)) = 128 * 2 ^ (7 * j) := by
        rw [show 7 * (j + 1) = 7 + 7 * j by omega, Nat.pow_add]
      have hr : x / 128 * 2 ^ (7 * (j + 1)) + x % 128 * 2 ^ (7 * j) = x * 2 ^ (7 * j) := by
        rw [hp, ← Nat.mul_assoc, ← Nat.add_mul]
        congr 1
        omega
      rw [List.cons_append, scan, hb, if_pos hm, if_neg (by omega), scan_uvarint f (j + 1) (x / 128) _ r (by omega) (by omega) (.inr (by omega)) (by omega)]
      rw [show (x % 128 + 128) % 128 = x % 128 by omega, List.length_cons]
      refine Prod.ext ?_ (Prod.ext ?_ rfl)
      · show _ = acc + x * 2 ^ (7 * j)
        dsimp only
        omega
      · show _ = j + ((uvarint (x / 128)).length + 1)
        dsimp only
        omega
theorem getU_uvarint {x : Nat} (r : List UInt8) (hx : x < 18446744073709551616) : getU (uvarint x ++ r) = (x, (uvarint x).length, 0) := by
  have h := scan_uvarint 10 0 x 0 r rfl (by decide) (.inl rfl) (by simpa using hx)
  simpa [getU] using h
theorem getU_uvarint' {x : Nat} (hx : x < 18446744073709551616) : getU (uvarint x) = (x, (uvarint x).length, 0) := by
  have h := getU_uvarint [] hx
  rwa [List.append_nil] at h
/-- whoever reads on within a number -/
theorem drop_uvarint : ∀ (k x : Nat), k < (uvarint x).length → (uvarint x).drop k = uvarint (x / 128 ^ k)
  | 0, x, _ => by simp
  | k + 1, x, h => by
    by_cases hs : x < 128
    · rw [uvarint_small hs] at h
      simp at h
    · rw [uvarint_big (by omega)] at h ⊢
      rw [List.drop_succ_cons, drop_uvarint k (x / 128) (by simpa using h), Nat.div_div_eq_div_mul, Nat.pow_succ, Nat.mul_comm]
theorem getU_nil : getU [] = (0, 0, 11) := rfl
theorem uvarint_inj {x y : Nat} (hx : x < 18446744073709551616) (hy : y < 18446744073709551616) (h : uvarint x = uvarint y) : x = y := by
  have h1 := getU_uvarint' hx
  rw [h, getU_uvarint' hy] at h1
  exact (Prod.mk.inj h1).1.symm
end Go.Proofs.Ytebpdlggkncliaa

/-
  Seal, Unseal, Blob, GetBlob.
-/
namespace Go.Proofs.Ytebpdlggkncliaa
open Go.RowKit
open Go.Lib (byteCells byteCells_length byteCells_append uvarint)

/-- the four bytes of a sum -/
def sumBytes (s : Nat) : List UInt8 := [(s / 16777216).toUInt8, (s / 65536 % 256).toUInt8, (s / 256 % 256).toUInt8, (s % 256).toUInt8]
theorem IsB.full {w : World} {A : Option Addr} {n c : Nat} {l : List UInt8} {base : Nat} {e : TypeId} (h : IsB w A n c l) : Full w base e (.slice A n n) l := by
  obtain ⟨rfl, hc, hA, hs⟩ := h
  exact .inr ⟨A, rfl, fun e => List.eq_nil_of_length_eq_zero (by have := hA e; omega), hs⟩
theorem Full.drew {w : World} {base : Nat} {e : TypeId} {v : Value} {l : List UInt8} (h : Full w base e v l) : Full w.drew base e v l := h
theorem new_four (w : World) (t : TypeId) {s : Nat} (hs : s < 4294967296) : ∀ j u, (sumBytes s)[j]? = some u →
    (w.alloc (.cells #[.int .u8 ((s : Int) / 16777216), .int .u8 ((s : Int) / 65536 % 256), .int .u8 ((s : Int) / 256 % 256), .int .u8 ((s : Int) % 256)] t)).cell? ((⟨w.heap.size, 0, none⟩ : Addr).add j) = some (.int .u8 (u.toNat : Int)) := by
  intro j u hj
  have hr := Row.new w t #[.int .u8 ((s : Int) / 16777216), .int .u8 ((s : Int) / 65536 % 256), .int .u8 ((s : Int) / 256 % 256), .int .u8 ((s : Int) % 256)]
  rw [Addr.add_lit, hr.cell]
  have e0 : ((s / 16777216).toUInt8).toNat = s / 16777216 := byte_toNat (by omega)
  have e1 : ((s / 65536 % 256).toUInt8).toNat = s / 65536 % 256 := byte_toNat (by omega)
  have e2 : ((s / 256 % 256).toUInt8).toNat = s / 256 % 256 := byte_toNat (by omega)
  have e3 : ((s % 256).toUInt8).toNat = s % 256 := byte_toNat (by omega)
  match j, hj with
  | 0, hj => obtain rfl := Option.some.inj hj; rw [e0]; rfl
  | 1, hj => obtain rfl := Option.some.inj hj; rw [e1]; rfl
  | 2, hj => obtain rfl := Option.some.inj hj; rw [e2]; rfl
  | 3, hj => obtain rfl := Option.some.inj hj; rw [e3]; rfl

set_option maxRecDepth 100000 in
theorem seal_any (A : Option Addr) (n c : Nat) (l : List UInt8) (w : World) (h : IsB w A n c l) (hn : n ≤ 35184372088832) :
    Calls Try.prog 96 #[.slice A n c] w fun e w' => ∃ v, e = .returned v ∧ Own w' w.heap.size 5 v (l ++ sumBytes (crc l)) ∧ Below w.heap.size w w' := by
  go_enter Try.func96, Try.ntmps96
  go_wp2_with fail
  refine (crc_any A n c l w h hn).mono ?_
  rintro e w1 ⟨rfl, hb1⟩
  have hs := crc_lt l
  generalize hse : crc l = s at hs ⊢
  have HS := Lib.hid hse
  clear hse
  go_wp2_with fail
  refine (laidOut_any s _ hs).mono ?_
  rintro e w2 ⟨rfl, hb2⟩
  go_wp2_with fail
  have h2 := (h.below hb1).below hb2
  have hB : Below w.heap.size w w2 := hb1.trans (hb2.mono hb1.size)
  have h3 := (h2.alloc (.cells #[.int .u8 ((s : Int) / 16777216), .int .u8 ((s : Int) / 65536 % 256), .int .u8 ((s : Int) / 256 % 256), .int .u8 ((s : Int) % 256)] 170)).full (base := w.heap.size) (e := 5)
  have hN := new_four w2 170 hs
  have hB3 := hB.alloc hB.size (.cells #[.int .u8 ((s : Int) / 16777216), .int .u8 ((s : Int) / 65536 % 256), .int .u8 ((s : Int) / 256 % 256), .int .u8 ((s : Int) % 256)] 170)
  have hz := hB.size
  have hcap := h.cap
  have hl := h.len
  obtain ⟨i0, hi, hz0, hz1, hz2⟩ := info_parts infoByte
  have HB := Lib.hid hB3
  have HN := Lib.hid hN
  clear h h2 hb1 hb2 hB hB3 hN
  go_region_law (first
    | (refine step_run (by simp [Region.wanted]) _ _ 26 rfl (R := fun v' w' => Own w' w.heap.size 5 v' (l ++ sumBytes s) ∧ Below w.heap.size _ w') (run_put _ 26 _ 5 i0 Try.underlying26 hi hz0 hz1 hz2 w.heap.size _ l h3.drew _ 4 4 (sumBytes s) rfl (by decide) HN.out (by omega) (by simp; omega)) ?_; rintro v' w' ⟨ho, hb⟩)
    | (go_simp; go_at_call 103; refine (clip_any A n c _ hcap).mono ?_; rintro e w' ⟨rfl, rfl⟩))
  go_wp2
  go_ret
  exact ⟨v', rfl, by rw [HS.out]; exact ho, HB.out.drew.trans hb⟩

/- ## Blob -/
end Go.Proofs.Ytebpdlggkncliaa

/-
  laid, folds, errorAt, awake: the chapter's examples come out as written.
-/
set_option linter.unusedSimpArgs false
namespace Go.Proofs.Ytebpdlggkncliaa
open Go.RowKit
open Go.Lib (byteCells byteCells_length byteCells_append uvarint uvarint_small uvarint_big)

theorem str_of (w : World) {A : Option Addr} {n c : Nat} {l : List UInt8} (h : IsB w A n c l) :
    (convert 26 9 (.slice A n c)).run Try.prog w = .ok (.string ⟨l.toArray⟩) w :=
  run_str w 26 9 5 Try.underlying26 Try.underlying5 Try.underlying9 A n c l h

/-- what is known of the world may be more from here on -/
theorem wpAnyH_mono {P : Program} {md : Region.Mode} {ops : Array Oper} {Q : Exit → Act → World → Prop} {S S' : World → Prop} (h : ∀ w, S' w → S w) :
    ∀ (fuel : Nat) (listed : Array Bool) (a : Act) (w : World), wpAnyH P md ops Q S' fuel listed a w → wpAnyH P md ops Q S fuel listed a w
  | 0, _, _, _, hw => hw
  | fuel + 1, _, _, _, hw => ⟨hw.1, fun i hi => wpOp_mono (fun a' w' h' => ⟨h w' h'.1, wpAnyH_mono h fuel _ a' w' h'.2⟩) (hw.2 i hi)⟩
theorem own_slice {w : World} {base : Nat} {e : TypeId} {v : Value} {l : List UInt8} (h : Own w base e v l) : ∃ A m c, v = .slice A m c ∧ IsB w A m c l := by
  obtain ⟨A, c, hv, hi, _⟩ := own_is h
  exact ⟨A, _, c, hv, hi⟩
theorem IsB.drew {w : World} {A : Option Addr} {n c : Nat} {l : List UInt8} (h : IsB w A n c l) : IsB w.drew A n c l := h.drewN 1
/-- Uint behind nothing -/
theorem uint_nil (x : Nat) (w : World) (hx : x < 18446744073709551616) :
    Calls Try.prog 95 #[.slice none 0 0, .int .u64 (x : Int)] w fun e w' =>
      ∃ A m c, e = .returned (.slice A m c) ∧ IsB w' A m c (uvarint x) ∧ (convert 26 9 (.slice A m c)).run Try.prog w' = .ok (.string ⟨(uvarint x).toArray⟩) w' ∧ Below w.heap.size w w' :=
  (uint_any none 0 0 x [] w (IsB.nil w) (by decide) hx).mono fun e w' h => by
    obtain ⟨v, he, ho, hb⟩ := h
    obtain ⟨A, m, c, rfl, hi⟩ := own_slice ho
    exact ⟨A, m, c, he, hi, str_of w' hi, hb⟩

/-- Int behind nothing -/
theorem int_nil (x : Int) (w : World) (h0 : -9223372036854775808 ≤ x) (h1 : x ≤ 9223372036854775807) :
    Calls Try.prog 135 #[.slice none 0 0, .int .i64 x] w fun e w' =>
      ∃ A m c, e = .returned (.slice A m c) ∧ IsB w' A m c (uvarint (Lib.zigzag x)) ∧ (convert 26 9 (.slice A m c)).run Try.prog w' = .ok (.string ⟨(uvarint (Lib.zigzag x)).toArray⟩) w' ∧ Below w.heap.size w w' :=
  (int_any none 0 0 x [] w (IsB.nil w) (by decide) h0 h1).mono fun e w' h => by
    obtain ⟨v, he, ho, hb⟩ := h
    obtain ⟨A, m, c, rfl, hi⟩ := own_slice ho
    exact ⟨A, m, c, he, hi, str_of w' hi, hb⟩
/-- what Uint, Int laid is read back -/
theorem getUint_back (A : Option Addr) (m c x : Nat) (w : World) (hx : x < 18446744073709551616) (h : IsB w A m c (uvarint x)) :
    Calls Try.prog 98 #[.slice A m c, .int .i64 0] w fun e w' => e = .returned (.tuple #[.int .u64 (x : Int), .int .i64 (m : Int), .int .i64 0]) ∧ w = w' := by
  have hl := h.len
  have := Lib.uvarint_length64 hx
  have hc := getUint_any A m c 0 (uvarint x) w h (by omega) (by omega)
  rw [List.drop_zero, getU_uvarint' hx, hl] at hc
  simpa [ansU, nextU] using hc
theorem getInt_back (A : Option Addr) (m c : Nat) (x : Int) (w : World) (h0 : -9223372036854775808 ≤ x) (h1 : x ≤ 9223372036854775807) (h : IsB w A m c (uvarint (Lib.zigzag x))) :
    Calls Try.prog 91 #[.slice A m c, .int .i64 0] w fun e w' => e = .returned (.tuple #[.int .i64 x, .int .i64 (m : Int), .int .i64 0]) ∧ w = w' := by
  have hz := Lib.zigzag_lt h0 h1
  have hl := h.len
  have := Lib.uvarint_length64 hz
  have hc := getInt_any A m c 0 _ w h (by omega) (by omega)
  rw [List.drop_zero, getU_uvarint' hz, hl] at hc
  simpa [ansI, nextU, unzigzag_zigzag] using hc

/- ## errorAt -/
theorem scan_one : ∀ (f j acc : Nat) (l : List UInt8), (scan f j acc l).2.2 = 0 → 0 < (scan f j acc l).2.1
  | 0, _, _, _, h => by simp [scan] at h
  | f + 1, j, acc, [], h => by simp [scan] at h
  | f + 1, j, acc, x :: r, h => by
    rw [scan] at h ⊢
    split
    · rename_i hm
      rw [if_pos hm] at h
      split
      · exact Nat.succ_pos _
      · rename_i hx
        rw [if_neg hx] at h
        exact scan_one f _ _ r h
    · rename_i hm
      rw [if_neg hm] at h
      simp at h
theorem getU_one (l : List UInt8) (h : (getU l).2.2 = 0) : 0 < (getU l).2.1 := scan_one 10 0 0 l h
end Go.Proofs.Ytebpdlggkncliaa
