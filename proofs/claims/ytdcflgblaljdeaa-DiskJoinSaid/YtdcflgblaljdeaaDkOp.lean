/-
  The disk's operations, as the document has them: an operation of an armed disk, of one that is not. (Made by dkop2_gen.py: the same text for each closure.)
-/
import Derived.Test.YtdcflgblaljdeaaDkClos
set_option linter.unusedVariables false
set_option linter.unusedSimpArgs false
namespace Go.Proofs.Ytdcflgblaljdeaa
open Go.RowKit Go.Maps

theorem used_of {s : St} {ms : List (Nm × Raw)} (h : s.fs = amap Raw.c ms) : s.used = usedR ms := by
  unfold St.used usedR
  rw [h, asum_amap]

theorem op_Append {w0 W : World} {F : Nat → Prop} {a mb : Nat} {s : St} {ms : List (Nm × Raw)} {lv : Int} (hs : s.wf) (hd : s.down = false) (hp : DkP W a mb ms s.most s.left.isSome lv s.down) (hlv : ∀ n, s.left = some n → lv = (n : Int))
    (hfs : s.fs = amap Raw.c ms) (hA : Away F w0 W) (hfoot : ∀ b, Foot a mb ms b → F b) (f : List (Nm × Fc) → List (Nm × Fc)) (hwf : ({ s with fs := f s.fs } : St).wf) (p0 p1 p2 p3 : Addr)
    (hcl : ∀ W1 armed lv1, DkP W1 a mb ms s.most armed lv1 false → Away (fun b => b = a) W W1 → Calls Try.prog 57 #[.pointer (some p0), .pointer (some p1), .pointer (some p2), .pointer (some p3)] W1 fun e W' => e = .returned (.tuple #[]) ∧
      ∃ ms', amap Raw.c ms' = f s.fs ∧ DkP W' a mb ms' s.most armed lv1 false ∧ Away (fun b => F b ∨ w0.heap.size ≤ b) W1 W' ∧ ∀ b, Foot a mb ms' b → F b ∨ w0.heap.size ≤ b) :
    Calls Try.prog 56 #[.pointer (some ⟨a, 0, none⟩), .func (.func 57) #[] #[.pointer (some p0), .pointer (some p1), .pointer (some p2), .pointer (some p3)]] W fun e W' =>
      e = .returned (.int .i64 ((s.op f).2 : Int)) ∧ Turned w0 F a W' (s.op f).1 := by
  have hw2 := St.op_wf hs hd hwf
  rw [hd] at hp
  unfold St.op at hw2 ⊢
  cases hl : s.left with
  | none =>
    rw [hl] at hp hw2
    refine (operate_Append hp p0 p1 p2 p3 _ (hcl W false lv hp (Away.refl _ _))).mono ?_
    rintro e W' ⟨rfl, ms', hfs', hp', hA', hf'⟩
    exact ⟨rfl, Turned.mk' hw2 (hA.trans hA' fun b e => e) (lv := lv) (by show DkP W' a mb ms' s.most false lv s.down; rw [hd]; exact hp') (fun n e => by cases e) hfs'.symm hf'⟩
  | some n =>
    cases n with
    | zero =>
      have hlv0 : lv = 0 := by have := hlv 0 hl; omega
      rw [hl] at hp hw2
      subst hlv0
      refine (operate_off hp _).mono ?_
      rintro e W' ⟨rfl, hp', hA'⟩
      exact ⟨rfl, Turned.mk' hw2 (hA.trans hA' fun b e => .inl (hfoot b (.inl e))) (lv := 0) hp' (fun n e => by cases e) hfs fun b hb => .inl (hfoot b hb)⟩
    | succ n =>
      have hlv0 : lv = (n : Int) + 1 := by have := hlv (n + 1) hl; omega
      rw [hl] at hp hw2
      subst hlv0
      obtain ⟨hp1, hA1⟩ := hp.less (n : Int)
      refine (operateOn_Append hp (hs.arm (n + 1) hl) p0 p1 p2 p3 _ (hcl _ true n hp1 hA1)).mono ?_
      rintro e W' ⟨rfl, ms', hfs', hp', hA', hf'⟩
      exact ⟨rfl, Turned.mk' hw2 ((hA.trans hA1 fun b e => .inl (hfoot b (.inl e))).trans hA' fun b e => e) (lv := n) (by show DkP W' a mb ms' s.most true n s.down; rw [hd]; exact hp') (fun k e => by cases e; rfl) hfs'.symm hf'⟩

theorem op_Cut {w0 W : World} {F : Nat → Prop} {a mb : Nat} {s : St} {ms : List (Nm × Raw)} {lv : Int} (hs : s.wf) (hd : s.down = false) (hp : DkP W a mb ms s.most s.left.isSome lv s.down) (hlv : ∀ n, s.left = some n → lv = (n : Int))
    (hfs : s.fs = amap Raw.c ms) (hA : Away F w0 W) (hfoot : ∀ b, Foot a mb ms b → F b) (f : List (Nm × Fc) → List (Nm × Fc)) (hwf : ({ s with fs := f s.fs } : St).wf) (p0 p1 p2 p3 : Addr)
    (hcl : ∀ W1 armed lv1, DkP W1 a mb ms s.most armed lv1 false → Away (fun b => b = a) W W1 → Calls Try.prog 60 #[.pointer (some p0), .pointer (some p1), .pointer (some p2), .pointer (some p3)] W1 fun e W' => e = .returned (.tuple #[]) ∧
      ∃ ms', amap Raw.c ms' = f s.fs ∧ DkP W' a mb ms' s.most armed lv1 false ∧ Away (fun b => F b ∨ w0.heap.size ≤ b) W1 W' ∧ ∀ b, Foot a mb ms' b → F b ∨ w0.heap.size ≤ b) :
    Calls Try.prog 56 #[.pointer (some ⟨a, 0, none⟩), .func (.func 60) #[] #[.pointer (some p0), .pointer (some p1), .pointer (some p2), .pointer (some p3)]] W fun e W' =>
      e = .returned (.int .i64 ((s.op f).2 : Int)) ∧ Turned w0 F a W' (s.op f).1 := by
  have hw2 := St.op_wf hs hd hwf
  rw [hd] at hp
  unfold St.op at hw2 ⊢
  cases hl : s.left with
  | none =>
    rw [hl] at hp hw2
    refine (operate_Cut hp p0 p1 p2 p3 _ (hcl W false lv hp (Away.refl _ _))).mono ?_
    rintro e W' ⟨rfl, ms', hfs', hp', hA', hf'⟩
    exact ⟨rfl, Turned.mk' hw2 (hA.trans hA' fun b e => e) (lv := lv) (by show DkP W' a mb ms' s.most false lv s.down; rw [hd]; exact hp') (fun n e => by cases e) hfs'.symm hf'⟩
  | some n =>
    cases n with
    | zero =>
      have hlv0 : lv = 0 := by have := hlv 0 hl; omega
      rw [hl] at hp hw2
      subst hlv0
      refine (operate_off hp _).mono ?_
      rintro e W' ⟨rfl, hp', hA'⟩
      exact ⟨rfl, Turned.mk' hw2 (hA.trans hA' fun b e => .inl (hfoot b (.inl e))) (lv := 0) hp' (fun n e => by cases e) hfs fun b hb => .inl (hfoot b hb)⟩
    | succ n =>
      have hlv0 : lv = (n : Int) + 1 := by have := hlv (n + 1) hl; omega
      rw [hl] at hp hw2
      subst hlv0
      obtain ⟨hp1, hA1⟩ := hp.less (n : Int)
      refine (operateOn_Cut hp (hs.arm (n + 1) hl) p0 p1 p2 p3 _ (hcl _ true n hp1 hA1)).mono ?_
      rintro e W' ⟨rfl, ms', hfs', hp', hA', hf'⟩
      exact ⟨rfl, Turned.mk' hw2 ((hA.trans hA1 fun b e => .inl (hfoot b (.inl e))).trans hA' fun b e => e) (lv := n) (by show DkP W' a mb ms' s.most true n s.down; rw [hd]; exact hp') (fun k e => by cases e; rfl) hfs'.symm hf'⟩

theorem op_Sync {w0 W : World} {F : Nat → Prop} {a mb : Nat} {s : St} {ms : List (Nm × Raw)} {lv : Int} (hs : s.wf) (hd : s.down = false) (hp : DkP W a mb ms s.most s.left.isSome lv s.down) (hlv : ∀ n, s.left = some n → lv = (n : Int))
    (hfs : s.fs = amap Raw.c ms) (hA : Away F w0 W) (hfoot : ∀ b, Foot a mb ms b → F b) (f : List (Nm × Fc) → List (Nm × Fc)) (hwf : ({ s with fs := f s.fs } : St).wf) (p0 p1 p2 : Addr)
    (hcl : ∀ W1 armed lv1, DkP W1 a mb ms s.most armed lv1 false → Away (fun b => b = a) W W1 → Calls Try.prog 63 #[.pointer (some p0), .pointer (some p1), .pointer (some p2)] W1 fun e W' => e = .returned (.tuple #[]) ∧
      ∃ ms', amap Raw.c ms' = f s.fs ∧ DkP W' a mb ms' s.most armed lv1 false ∧ Away (fun b => F b ∨ w0.heap.size ≤ b) W1 W' ∧ ∀ b, Foot a mb ms' b → F b ∨ w0.heap.size ≤ b) :
    Calls Try.prog 56 #[.pointer (some ⟨a, 0, none⟩), .func (.func 63) #[] #[.pointer (some p0), .pointer (some p1), .pointer (some p2)]] W fun e W' =>
      e = .returned (.int .i64 ((s.op f).2 : Int)) ∧ Turned w0 F a W' (s.op f).1 := by
  have hw2 := St.op_wf hs hd hwf
  rw [hd] at hp
  unfold St.op at hw2 ⊢
  cases hl : s.left with
  | none =>
    rw [hl] at hp hw2
    refine (operate_Sync hp p0 p1 p2 _ (hcl W false lv hp (Away.refl _ _))).mono ?_
    rintro e W' ⟨rfl, ms', hfs', hp', hA', hf'⟩
    exact ⟨rfl, Turned.mk' hw2 (hA.trans hA' fun b e => e) (lv := lv) (by show DkP W' a mb ms' s.most false lv s.down; rw [hd]; exact hp') (fun n e => by cases e) hfs'.symm hf'⟩
  | some n =>
    cases n with
    | zero =>
      have hlv0 : lv = 0 := by have := hlv 0 hl; omega
      rw [hl] at hp hw2
      subst hlv0
      refine (operate_off hp _).mono ?_
      rintro e W' ⟨rfl, hp', hA'⟩
      exact ⟨rfl, Turned.mk' hw2 (hA.trans hA' fun b e => .inl (hfoot b (.inl e))) (lv := 0) hp' (fun n e => by cases e) hfs fun b hb => .inl (hfoot b hb)⟩
    | succ n =>
      have hlv0 : lv = (n : Int) + 1 := by have := hlv (n + 1) hl; omega
      rw [hl] at hp hw2
      subst hlv0
      obtain ⟨hp1, hA1⟩ := hp.less (n : Int)
      refine (operateOn_Sync hp (hs.arm (n + 1) hl) p0 p1 p2 _ (hcl _ true n hp1 hA1)).mono ?_
      rintro e W' ⟨rfl, ms', hfs', hp', hA', hf'⟩
      exact ⟨rfl, Turned.mk' hw2 ((hA.trans hA1 fun b e => .inl (hfoot b (.inl e))).trans hA' fun b e => e) (lv := n) (by show DkP W' a mb ms' s.most true n s.down; rw [hd]; exact hp') (fun k e => by cases e; rfl) hfs'.symm hf'⟩

theorem op_Remove {w0 W : World} {F : Nat → Prop} {a mb : Nat} {s : St} {ms : List (Nm × Raw)} {lv : Int} (hs : s.wf) (hd : s.down = false) (hp : DkP W a mb ms s.most s.left.isSome lv s.down) (hlv : ∀ n, s.left = some n → lv = (n : Int))
    (hfs : s.fs = amap Raw.c ms) (hA : Away F w0 W) (hfoot : ∀ b, Foot a mb ms b → F b) (f : List (Nm × Fc) → List (Nm × Fc)) (hwf : ({ s with fs := f s.fs } : St).wf) (p0 p1 : Addr)
    (hcl : ∀ W1 armed lv1, DkP W1 a mb ms s.most armed lv1 false → Away (fun b => b = a) W W1 → Calls Try.prog 64 #[.pointer (some p0), .pointer (some p1)] W1 fun e W' => e = .returned (.tuple #[]) ∧
      ∃ ms', amap Raw.c ms' = f s.fs ∧ DkP W' a mb ms' s.most armed lv1 false ∧ Away (fun b => F b ∨ w0.heap.size ≤ b) W1 W' ∧ ∀ b, Foot a mb ms' b → F b ∨ w0.heap.size ≤ b) :
    Calls Try.prog 56 #[.pointer (some ⟨a, 0, none⟩), .func (.func 64) #[] #[.pointer (some p0), .pointer (some p1)]] W fun e W' =>
      e = .returned (.int .i64 ((s.op f).2 : Int)) ∧ Turned w0 F a W' (s.op f).1 := by
  have hw2 := St.op_wf hs hd hwf
  rw [hd] at hp
  unfold St.op at hw2 ⊢
  cases hl : s.left with
  | none =>
    rw [hl] at hp hw2
    refine (operate_Remove hp p0 p1 _ (hcl W false lv hp (Away.refl _ _))).mono ?_
    rintro e W' ⟨rfl, ms', hfs', hp', hA', hf'⟩
    exact ⟨rfl, Turned.mk' hw2 (hA.trans hA' fun b e => e) (lv := lv) (by show DkP W' a mb ms' s.most false lv s.down; rw [hd]; exact hp') (fun n e => by cases e) hfs'.symm hf'⟩
  | some n =>
    cases n with
    | zero =>
      have hlv0 : lv = 0 := by have := hlv 0 hl; omega
      rw [hl] at hp hw2
      subst hlv0
      refine (operate_off hp _).mono ?_
      rintro e W' ⟨rfl, hp', hA'⟩
      exact ⟨rfl, Turned.mk' hw2 (hA.trans hA' fun b e => .inl (hfoot b (.inl e))) (lv := 0) hp' (fun n e => by cases e) hfs fun b hb => .inl (hfoot b hb)⟩
    | succ n =>
      have hlv0 : lv = (n : Int) + 1 := by have := hlv (n + 1) hl; omega
      rw [hl] at hp hw2
      subst hlv0
      obtain ⟨hp1, hA1⟩ := hp.less (n : Int)
      refine (operateOn_Remove hp (hs.arm (n + 1) hl) p0 p1 _ (hcl _ true n hp1 hA1)).mono ?_
      rintro e W' ⟨rfl, ms', hfs', hp', hA', hf'⟩
      exact ⟨rfl, Turned.mk' hw2 ((hA.trans hA1 fun b e => .inl (hfoot b (.inl e))).trans hA' fun b e => e) (lv := n) (by show DkP W' a mb ms' s.most true n s.down; rw [hd]; exact hp') (fun k e => by cases e; rfl) hfs'.symm hf'⟩

theorem op_Rename {w0 W : World} {F : Nat → Prop} {a mb : Nat} {s : St} {ms : List (Nm × Raw)} {lv : Int} (hs : s.wf) (hd : s.down = false) (hp : DkP W a mb ms s.most s.left.isSome lv s.down) (hlv : ∀ n, s.left = some n → lv = (n : Int))
    (hfs : s.fs = amap Raw.c ms) (hA : Away F w0 W) (hfoot : ∀ b, Foot a mb ms b → F b) (f : List (Nm × Fc) → List (Nm × Fc)) (hwf : ({ s with fs := f s.fs } : St).wf) (p0 p1 p2 p3 : Addr)
    (hcl : ∀ W1 armed lv1, DkP W1 a mb ms s.most armed lv1 false → Away (fun b => b = a) W W1 → Calls Try.prog 66 #[.pointer (some p0), .pointer (some p1), .pointer (some p2), .pointer (some p3)] W1 fun e W' => e = .returned (.tuple #[]) ∧
      ∃ ms', amap Raw.c ms' = f s.fs ∧ DkP W' a mb ms' s.most armed lv1 false ∧ Away (fun b => F b ∨ w0.heap.size ≤ b) W1 W' ∧ ∀ b, Foot a mb ms' b → F b ∨ w0.heap.size ≤ b) :
    Calls Try.prog 56 #[.pointer (some ⟨a, 0, none⟩), .func (.func 66) #[] #[.pointer (some p0), .pointer (some p1), .pointer (some p2), .pointer (some p3)]] W fun e W' =>
      e = .returned (.int .i64 ((s.op f).2 : Int)) ∧ Turned w0 F a W' (s.op f).1 := by
  have hw2 := St.op_wf hs hd hwf
  rw [hd] at hp
  unfold St.op at hw2 ⊢
  cases hl : s.left with
  | none =>
    rw [hl] at hp hw2
    refine (operate_Rename hp p0 p1 p2 p3 _ (hcl W false lv hp (Away.refl _ _))).mono ?_
    rintro e W' ⟨rfl, ms', hfs', hp', hA', hf'⟩
    exact ⟨rfl, Turned.mk' hw2 (hA.trans hA' fun b e => e) (lv := lv) (by show DkP W' a mb ms' s.most false lv s.down; rw [hd]; exact hp') (fun n e => by cases e) hfs'.symm hf'⟩
  | some n =>
    cases n with
    | zero =>
      have hlv0 : lv = 0 := by have := hlv 0 hl; omega
      rw [hl] at hp hw2
      subst hlv0
      refine (operate_off hp _).mono ?_
      rintro e W' ⟨rfl, hp', hA'⟩
      exact ⟨rfl, Turned.mk' hw2 (hA.trans hA' fun b e => .inl (hfoot b (.inl e))) (lv := 0) hp' (fun n e => by cases e) hfs fun b hb => .inl (hfoot b hb)⟩
    | succ n =>
      have hlv0 : lv = (n : Int) + 1 := by have := hlv (n + 1) hl; omega
      rw [hl] at hp hw2
      subst hlv0
      obtain ⟨hp1, hA1⟩ := hp.less (n : Int)
      refine (operateOn_Rename hp (hs.arm (n + 1) hl) p0 p1 p2 p3 _ (hcl _ true n hp1 hA1)).mono ?_
      rintro e W' ⟨rfl, ms', hfs', hp', hA', hf'⟩
      exact ⟨rfl, Turned.mk' hw2 ((hA.trans hA1 fun b e => .inl (hfoot b (.inl e))).trans hA' fun b e => e) (lv := n) (by show DkP W' a mb ms' s.most true n s.down; rw [hd]; exact hp') (fun k e => by cases e; rfl) hfs'.symm hf'⟩
end Go.Proofs.Ytdcflgblaljdeaa
