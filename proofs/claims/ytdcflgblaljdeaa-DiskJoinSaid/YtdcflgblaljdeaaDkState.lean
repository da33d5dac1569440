/-
  A disk as the document has it: a most, files by rising names, how many operations are left, whether it is down; what each call makes of it.
-/
import Derived.Test.YtdcflgblaljdeaaDkMath
set_option linter.unusedVariables false
namespace Go.Proofs.Ytdcflgblaljdeaa

/-- what a file has: its bytes, how many are synced -/
abbrev Fc := List UInt8 × Nat
structure St where
  most : Nat
  fs : List (Nm × Fc)
  left : Option Nat
  down : Bool

def St.used (s : St) : Nat := asum (fun c : Fc => c.1.length) s.fs
def mayC (x : UInt8) : Bool := (97 ≤ x.toNat && x.toNat ≤ 122) || (48 ≤ x.toNat && x.toNat ≤ 57) || x.toNat == 46 || x.toNat == 45
def rightN (nm : Nm) : Bool := 1 ≤ nm.length && nm.length ≤ 40 && nm.all mayC

structure St.wf (s : St) : Prop where
  rise : Rising s.fs
  names : ∀ p ∈ s.fs, rightN p.1 = true
  safe : ∀ p ∈ s.fs, p.2.2 ≤ p.2.1.length
  room : s.used ≤ s.most
  most : s.most ≤ 16777216
  count : s.fs.length ≤ 200
  arm : ∀ n, s.left = some n → n < 9223372036854775808
  off : s.down = true → s.left = none

/-- an operation, of a disk that is not down -/
def St.op (s : St) (f : List (Nm × Fc) → List (Nm × Fc)) : St × Nat :=
  match s.left with
  | some 0 => ({ s with left := none, down := true }, 15)
  | some (n + 1) => ({ s with left := some n, fs := f s.fs }, 0)
  | none => ({ s with fs := f s.fs }, 0)
def St.append (s : St) (nm : Nm) (l : List UInt8) : St × Nat :=
  if s.down then (s, 15) else if rightN nm = false then (s, 13)
  else if s.most < s.used + l.length ∨ (aget nm s.fs = none ∧ s.fs.length = 200) then (s, 5)
  else s.op fun fs => aput nm (((aget nm s.fs).getD ([], 0)).1 ++ l, ((aget nm s.fs).getD ([], 0)).2) fs
def St.sync (s : St) (nm : Nm) : St × Nat :=
  if s.down then (s, 15) else match aget nm s.fs with
  | none => (s, 13)
  | some c => s.op fun fs => aput nm (c.1, c.1.length) fs
def St.rename (s : St) (a b : Nm) : St × Nat :=
  if s.down then (s, 15) else match aget a s.fs with
  | none => (s, 13)
  | some c => if rightN b = false then (s, 13) else s.op fun fs => aput b c (adel a fs)
def St.remove (s : St) (nm : Nm) : St × Nat :=
  if s.down then (s, 15) else match aget nm s.fs with
  | none => (s, 13)
  | some _ => s.op fun fs => adel nm fs
def St.cut (s : St) (nm : Nm) (n : Int) : St × Nat :=
  if s.down then (s, 15) else match aget nm s.fs with
  | none => (s, 13)
  | some c => if n < 0 ∨ (c.1.length : Int) < n then (s, 2) else s.op fun fs => aput nm (c.1.take n.toNat, n.toNat) fs
def St.arm' (s : St) (n : Int) : St := if s.down then s else { s with left := some n.toNat }
def kept (c : Fc) (keeps : List Int) (i : Nat) : Nat := c.2 + min ((keeps[i]?.map Int.toNat).getD 0) (c.1.length - c.2)
def crashed (keeps : List Int) (fs : List (Nm × Fc)) : List (Nm × Fc) := fs.mapIdx fun i p => (p.1, (p.2.1.take (kept p.2 keeps i), kept p.2 keeps i))
def St.crash (s : St) (keeps : List Int) : St := { s with fs := crashed keeps s.fs, left := none, down := false }
def St.new (most : Nat) : St := ⟨most, [], none, false⟩

theorem St.new_wf {most : Nat} (h : most ≤ 16777216) : (St.new most).wf :=
  ⟨List.Pairwise.nil, (fun _ h => by cases h), (fun _ h => by cases h), Nat.zero_le _, h, Nat.zero_le _, (fun _ h => by cases h), (fun h => by cases h)⟩

theorem St.op_wf {s : St} (h : s.wf) (hd : s.down = false) {f : List (Nm × Fc) → List (Nm × Fc)}
    (hf : ({ s with fs := f s.fs } : St).wf) : (s.op f).1.wf := by
  unfold St.op
  split
  · exact ⟨h.rise, h.names, h.safe, h.room, h.most, h.count, (fun _ e => by cases e), fun _ => rfl⟩
  · rename_i n hn
    exact ⟨hf.rise, hf.names, hf.safe, hf.room, hf.most, hf.count, (fun k e => by have := h.arm _ hn; cases e; omega), fun e => by rw [hd] at e; cases e⟩
  · exact hf
theorem St.put_wf {s : St} (h : s.wf) {nm : Nm} {c : Fc} (hn : rightN nm = true) (hc : c.2 ≤ c.1.length)
    (hr : s.used + c.1.length ≤ s.most + ((aget nm s.fs).getD ([], 0)).1.length) (hl : aget nm s.fs = none → s.fs.length < 200) : ({ s with fs := aput nm c s.fs } : St).wf := by
  have hu := asum_aput (g := fun c : Fc => c.1.length) h.rise nm c
  have hk := alen_aput h.rise nm c
  refine ⟨rising_aput h.rise _ _, ?_, ?_, ?_, h.most, ?_, h.arm, h.off⟩
  · intro p hp
    rcases mem_aput.1 hp with rfl | ⟨hp, _⟩
    · exact hn
    · exact h.names p hp
  · intro p hp
    rcases mem_aput.1 hp with rfl | ⟨hp, _⟩
    · exact hc
    · exact h.safe p hp
  · show asum (fun c : Fc => c.1.length) (aput nm c s.fs) ≤ s.most
    unfold St.used at hr
    cases hg : aget nm s.fs with
    | none => rw [hg] at hu hr; simp at hu hr; omega
    | some d => rw [hg] at hu hr; simp at hu hr; omega
  · show (aput nm c s.fs).length ≤ 200
    have := h.count
    cases hg : aget nm s.fs with
    | none => have := hl hg; rw [hg] at hk; simp at hk; omega
    | some d => rw [hg] at hk; simp at hk; omega
theorem St.del_wf {s : St} (h : s.wf) (nm : Nm) : ({ s with fs := adel nm s.fs } : St).wf := by
  have hu := asum_adel (g := fun c : Fc => c.1.length) h.rise nm
  have hk := alen_adel h.rise nm
  refine ⟨rising_adel h.rise _, fun p hp => h.names p (mem_adel.1 hp).1, fun p hp => h.safe p (mem_adel.1 hp).1, ?_, h.most, ?_, h.arm, h.off⟩
  · have := h.room
    unfold St.used at this
    show asum (fun c : Fc => c.1.length) (adel nm s.fs) ≤ s.most
    omega
  · show (adel nm s.fs).length ≤ 200
    have := h.count
    omega
theorem used_ge {s : St} {nm : Nm} {c : Fc} (h : s.wf) (hg : aget nm s.fs = some c) : c.1.length ≤ s.used := by
  have hu := asum_adel (g := fun c : Fc => c.1.length) h.rise nm
  rw [hg] at hu
  unfold St.used
  simp at hu
  omega
theorem St.append_wf {s : St} (h : s.wf) (nm : Nm) (l : List UInt8) : (s.append nm l).1.wf := by
  unfold St.append
  split
  · exact h
  rename_i hd
  split
  · exact h
  rename_i hr
  split
  · exact h
  rename_i hf
  refine St.op_wf h (by simpa using hd) (St.put_wf h (by simpa using hr) ?_ ?_ ?_)
  · cases hg : aget nm s.fs with
    | none => simp
    | some c => have := h.safe _ (aget_mem hg); simp at this ⊢; omega
  · cases hg : aget nm s.fs with
    | none => simp; omega
    | some c => simp; omega
  · intro hg
    have := h.count
    have : ¬ s.fs.length = 200 := fun e => hf (.inr ⟨hg, e⟩)
    omega
theorem St.sync_wf {s : St} (h : s.wf) (nm : Nm) : (s.sync nm).1.wf := by
  unfold St.sync
  split
  · exact h
  rename_i hd
  split
  · exact h
  rename_i c hg
  refine St.op_wf h (by simpa using hd) (St.put_wf h (h.names _ (aget_mem hg)) (Nat.le_refl _) ?_ ?_)
  · have := h.room
    rw [hg]; simp; omega
  · intro e; rw [hg] at e; cases e
theorem St.remove_wf {s : St} (h : s.wf) (nm : Nm) : (s.remove nm).1.wf := by
  unfold St.remove
  split
  · exact h
  rename_i hd
  split
  · exact h
  exact St.op_wf h (by simpa using hd) (St.del_wf h nm)
theorem St.cut_wf {s : St} (h : s.wf) (nm : Nm) (n : Int) : (s.cut nm n).1.wf := by
  unfold St.cut
  split
  · exact h
  rename_i hd
  split
  · exact h
  rename_i c hg
  split
  · exact h
  rename_i hn
  refine St.op_wf h (by simpa using hd) (St.put_wf h (h.names _ (aget_mem hg)) ?_ ?_ ?_)
  · simp; omega
  · have := h.room
    rw [hg]; simp; omega
  · intro e; rw [hg] at e; cases e
theorem St.rename_wf {s : St} (h : s.wf) (a b : Nm) : (s.rename a b).1.wf := by
  unfold St.rename
  split
  · exact h
  rename_i hd
  split
  · exact h
  rename_i c hg
  split
  · exact h
  rename_i hr
  have hdel := St.del_wf h a
  have hu := asum_adel (g := fun c : Fc => c.1.length) h.rise a
  have hk := alen_adel h.rise a
  rw [hg] at hu hk
  refine St.op_wf h (by simpa using hd) ?_
  refine St.put_wf (s := { s with fs := adel a s.fs }) hdel (by simpa using hr) (h.safe _ (aget_mem hg)) ?_ ?_
  · have := h.room
    unfold St.used at this
    show asum (fun c : Fc => c.1.length) (adel a s.fs) + c.1.length ≤ s.most + ((aget b (adel a s.fs)).getD ([], 0)).1.length
    simp at hu
    omega
  · intro _
    have := h.count
    show (adel a s.fs).length < 200
    simp at hk
    omega
theorem St.arm_wf {s : St} (h : s.wf) {n : Int} (hn : n < 9223372036854775808) : (s.arm' n).wf := by
  unfold St.arm'
  split
  · exact h
  · rename_i hd
    exact ⟨h.rise, h.names, h.safe, h.room, h.most, h.count, (fun k e => by cases e; omega), fun e => absurd e (by simpa using hd)⟩
theorem kept_le {c : Fc} (h : c.2 ≤ c.1.length) (keeps : List Int) (i : Nat) : kept c keeps i ≤ c.1.length ∧ c.2 ≤ kept c keeps i := by
  unfold kept
  omega
theorem crashed_keys (keeps : List Int) (fs : List (Nm × Fc)) : (crashed keeps fs).map (·.1) = fs.map (·.1) := by
  unfold crashed
  apply List.ext_getElem
  · simp
  · intro i h1 h2; simp
theorem rising_keys {α β : Type} {l : List (Nm × α)} {m : List (Nm × β)} (h : l.map (·.1) = m.map (·.1)) : Rising l ↔ Rising m := by
  unfold Rising
  have e : ∀ {γ : Type} (x : List (Nm × γ)), x.Pairwise (fun p q => bytesBefore p.1 q.1 = true) ↔ (x.map (·.1)).Pairwise fun p q => bytesBefore p q = true := fun x => by rw [List.pairwise_map]
  rw [e, e, h]
theorem asum_mono {α : Type} {g : α → Nat} : ∀ {l m : List (Nm × α)}, l.length = m.length → (∀ (i : Nat) x y, l[i]? = some x → m[i]? = some y → g x.2 ≤ g y.2) → asum g l ≤ asum g m
  | [], [], _, _ => Nat.le_refl _
  | [], _ :: _, h, _ => by simp at h
  | _ :: _, [], h, _ => by simp at h
  | x :: l, y :: m, h, hi => by
    have ih := asum_mono (g := g) (l := l) (m := m) (by simpa using h) fun i a b ha hb => hi (i + 1) a b (by simpa using ha) (by simpa using hb)
    have h0 := hi 0 x y rfl rfl
    simp only [asum, List.map_cons, List.sum_cons] at ih ⊢
    omega
theorem St.crash_wf {s : St} (h : s.wf) (keeps : List Int) : (s.crash keeps).wf := by
  have hkeys := crashed_keys keeps s.fs
  have hlen : (crashed keeps s.fs).length = s.fs.length := by simp [crashed]
  have hmem : ∀ p ∈ crashed keeps s.fs, ∃ (i : Nat) (q : Nm × Fc), s.fs[i]? = some q ∧ p = (q.1, (q.2.1.take (kept q.2 keeps i), kept q.2 keeps i)) := by
    intro p hp
    obtain ⟨i, hi, e⟩ := List.getElem_of_mem hp
    have hi' : i < s.fs.length := by omega
    refine ⟨i, s.fs[i], List.getElem?_eq_getElem hi', ?_⟩
    rw [← e]
    simp [crashed]
  refine ⟨(rising_keys hkeys).2 h.rise, ?_, ?_, ?_, h.most, by show (crashed keeps s.fs).length ≤ 200; rw [hlen]; exact h.count, (fun _ e => by cases e), fun e => by cases e⟩
  · intro p hp
    obtain ⟨i, q, hq, rfl⟩ := hmem p hp
    exact h.names q (List.mem_of_getElem? hq)
  · intro p hp
    obtain ⟨i, q, hq, rfl⟩ := hmem p hp
    have := kept_le (h.safe q (List.mem_of_getElem? hq)) keeps i
    simp; omega
  · refine Nat.le_trans (asum_mono hlen ?_) h.room
    intro i x y hx hy
    have hx : (crashed keeps s.fs)[i]? = some x := hx
    unfold crashed at hx
    rw [List.getElem?_mapIdx, hy] at hx
    simp only [Option.map_some, Option.some.injEq] at hx
    subst hx
    simp; omega
end Go.Proofs.Ytdcflgblaljdeaa
