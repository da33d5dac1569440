/-
  EventTells: what the program and the definition answer alike.
-/
import Derived.Test.YtebpdlggkncliaaK4
import Derived.Test.YtebpdlggkncliaaKRefEvRead
set_option linter.unusedVariables false
set_option linter.unusedSimpArgs false
namespace Go.Proofs.Ytebpdlggkncliaa
open Go.RowKit
open Go.Lib (byteCells byteCells_length byteCells_append uvarint)

theorem run_append_nothing (A : Option Addr) (c : Nat) (w : World) : (Builtin.append_ #[71, 71] 71 #[.slice none 0 0, .slice A 0 c]).run Try.prog w = .ok (.slice none 0 0) w := by
  cases A <;> kernel_rfl
set_option maxRecDepth 100000 in
theorem copyevents_any {w : World} {A : Option Addr} {n c : Nat} {es : List Ev} (h : IsEv w A n c es) (hn : n ≤ 100000) :
    Calls Try.prog 41 #[.slice A n c] w fun e w' => ∃ v, e = .returned v ∧ OwnE w' w.heap.size v es ∧ Below w.heap.size w w' := by
  by_cases h0 : n = 0
  · subst h0
    have he : es = [] := List.eq_nil_of_length_eq_zero h.len
    subst he
    have hr := run_append_nothing A c w
    clear h
    go_enter Try.func41, Try.ntmps41
    go_wp2_with (at_builtin; refine wpList_run _ rfl (.tmp 4) (.tmp 5) 71 rfl (R := fun v x => v = .slice none 0 0 ∧ x = w) ⟨_, _, hr, rfl, rfl⟩ ?_; rintro v' w' ⟨rfl, rfl⟩)
    refine bodyPost_ret (v := .slice none 0 0) (by simp [results, Try.results41, go_sem]) rfl ⟨_, rfl, OwnE.nil _ _, Below.refl _ _⟩
  · obtain ⟨v', w', hr, A', c', rfl, hO, hA⟩ := oe_app (OwnE.nil w w.heap.size) (Nat.le_refl _) 71 h (by omega) (by omega)
    have hB : Below w.heap.size w w' := hA.below (Nat.le_refl _) fun b e => by cases e
    rw [List.nil_append] at hO
    rw [Nat.zero_add] at hO hr
    clear h hA
    go_enter Try.func41, Try.ntmps41
    go_wp2_with (at_builtin; refine wpList_run _ rfl (.tmp 4) (.tmp 5) 71 rfl (R := fun v x => v = .slice A' n c' ∧ x = w') ⟨_, _, hr, rfl, rfl⟩ ?_; rintro v' w' ⟨rfl, rfl⟩)
    refine bodyPost_ret (v := .slice A' n c') (by simp [results, Try.results41, go_sem]) rfl ⟨_, rfl, hO, hB⟩
set_option maxRecDepth 100000 in
theorem refFrame_none (A : Option Addr) (c : Nat) (w : World) :
    Calls Try.prog 45 #[.slice A 0 c] w fun e w' => e = .returned (.tuple #[.slice none 0 0, .int .i64 2]) ∧ w = w' := by
  go_enter Try.func45, Try.ntmps45
  go_wp2_with fail
  go_ret2
  exact ⟨rfl, rfl⟩
/-- what Frame tells -/
def FrameSays (fr : List UInt8) (er : Int) (base : Nat) (e : Ending) (w' : World) : Prop := ∃ v, e = .returned (.tuple #[v, .int .i64 er]) ∧ Own w' base 5 v fr
theorem frames_both (es : List Ev) (hn : es.length ≤ 4096) (hok : ∀ x ∈ es, x.ok) : ∃ (fr : List UInt8) (er : Int),
    (∀ (w : World) A n c, IsEv w A n c es → Calls Try.prog 44 #[.slice A n c] w fun e w' => FrameSays fr er w.heap.size e w' ∧ Below w.heap.size w w') ∧
    (∀ (w : World) A n c, IsEv w A n c es → Calls Try.prog 45 #[.slice A n c] w fun e w' => FrameSays fr er w.heap.size e w' ∧ Below w.heap.size w w') := by
  by_cases h0 : es = []
  · subst h0
    refine ⟨[], 2, fun w A n c h => ?_, fun w A n c h => ?_⟩
    · obtain rfl : n = 0 := h.len.symm
      refine (Frame_none A c w).mono ?_
      rintro e w' ⟨rfl, rfl⟩
      exact ⟨⟨_, rfl, Own.nil _ _ _⟩, Below.refl _ _⟩
    · obtain rfl : n = 0 := h.len.symm
      refine (refFrame_none A c w).mono ?_
      rintro e w' ⟨rfl, rfl⟩
      exact ⟨⟨_, rfl, Own.nil _ _ _⟩, Below.refl _ _⟩
  · have h1 : 1 ≤ es.length := by cases es with | nil => exact absurd rfl h0 | cons x r => simp
    refine ⟨frameOf es, 0, fun w A n c h => ?_, fun w A n c h => ?_⟩
    · refine (Frame_any A n c es w h (by rw [← h.len]; exact h1) (by rw [← h.len]; exact hn) hok).mono ?_
      rintro e w' ⟨v, rfl, ho, hb⟩
      exact ⟨⟨v, rfl, ho⟩, hb⟩
    · refine (refFrame_any A n c es w h (by rw [← h.len]; exact h1) (by rw [← h.len]; exact hn) hok).mono ?_
      rintro e w' ⟨v, rfl, ho, hb⟩
      exact ⟨⟨v, rfl, ho⟩, hb⟩
theorem gets_both (p : Ev) (l : List UInt8) (at_ : Int) (hn : l.length ≤ 1000000) : ∃ (x : Ev) (i f : Nat),
    (∀ (w : World) A n c, IsB w A n c l → Calls Try.prog 42 #[.slice A n c, .int .i64 at_, .agg #[.int .i64 p.th, .int .u8 (p.op : Int), .int .i64 p.obj, .int .i64 p.a, .int .i64 p.b]] w fun e w' => e = .returned (ansE (x, i, f)) ∧ Below w.heap.size w w') ∧
    (∀ (w : World) A n c, IsB w A n c l → Calls Try.prog 43 #[.slice A n c, .int .i64 at_, .agg #[.int .i64 p.th, .int .u8 (p.op : Int), .int .i64 p.obj, .int .i64 p.a, .int .i64 p.b]] w fun e w' => e = .returned (ansE (x, i, f)) ∧ Below w.heap.size w w') := by
  by_cases h0 : at_ < 0 ∨ (l.length : Int) < at_
  · refine ⟨Ev.zero, 0, 2, fun w A n c h => ?_, fun w A n c h => ?_⟩
    · exact Get_out A n c at_ p w (by rw [← h.len]; exact h0)
    · exact refGet_out A n c at_ p w (by rw [← h.len]; exact h0)
  · obtain ⟨k, rfl⟩ : ∃ k : Nat, at_ = (k : Int) := ⟨at_.toNat, by omega⟩
    refine ⟨(getEv p l k).1, (getEv p l k).2.1, (getEv p l k).2.2, fun w A n c h => ?_, fun w A n c h => ?_⟩
    · exact Get_any A n c k l p w h (by rw [← h.len]; exact hn) (by rw [← h.len]; omega)
    · exact refGet_any A n c k l p w h (by rw [← h.len]; exact hn) (by rw [← h.len]; omega)
theorem rdFrame_most (l : List UInt8) (k : Nat) : (rdFrame l k).1.length ≤ 4096 := by
  unfold rdFrame
  split
  · simp
  split
  · simp
  split
  · simp
  split
  · simp
  split
  · simp
  · rename_i es he
    exact (evsOf_sound he).1.most
theorem reads_both (l : List UInt8) (at_ : Int) (hn : l.length ≤ 1000000) : ∃ (es : List Ev) (i f : Nat), es.length ≤ 4096 ∧
    (∀ (w : World) A n c, IsB w A n c l → Calls Try.prog 46 #[.slice A n c, .int .i64 at_] w fun e w' => ReadSays (es, i, f) w.heap.size e w' ∧ Below w.heap.size w w') ∧
    (∀ (w : World) A n c, IsB w A n c l → Calls Try.prog 47 #[.slice A n c, .int .i64 at_] w fun e w' => ReadSays (es, i, f) w.heap.size e w' ∧ Below w.heap.size w w') := by
  by_cases h0 : at_ < 0 ∨ (l.length : Int) < at_
  · refine ⟨[], 0, 2, by decide, fun w A n c h => ?_, fun w A n c h => ?_⟩
    · exact Read_out A n c at_ l w h (by rw [← h.len]; exact hn) (by rw [← h.len]; exact h0)
    · exact refRead_out A n c at_ l w h (by rw [← h.len]; exact hn) (by rw [← h.len]; exact h0)
  · obtain ⟨k, rfl⟩ : ∃ k : Nat, at_ = (k : Int) := ⟨at_.toNat, by omega⟩
    refine ⟨(rdFrame l k).1, (rdFrame l k).2.1, (rdFrame l k).2.2, rdFrame_most l k, fun w A n c h => ?_, fun w A n c h => ?_⟩
    · exact Read_any A n c k l w h (by rw [← h.len]; exact hn) (by rw [← h.len]; omega)
    · exact refRead_any A n c k l w h (by rw [← h.len]; exact hn) (by rw [← h.len]; omega)
end Go.Proofs.Ytebpdlggkncliaa
