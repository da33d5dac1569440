/-
  The disk's operations: what is handed in as a closure is done, unless the power fails. (Made by dkop_gen.py: the same text for each closure.)
-/
import Derived.Test.YtdcflgblaljdeaaDkFind
set_option linter.unusedVariables false
set_option linter.unusedSimpArgs false
namespace Go.Proofs.Ytdcflgblaljdeaa
open Go.RowKit Go.Maps
open Go.Lib (byteCells byteCells_length byteCells_append)

set_option maxRecDepth 100000 in
set_option maxHeartbeats 1000000 in
theorem operate_off {w : World} {a mb : Nat} {ms : List (Nm × Raw)} {most : Nat} {down : Bool} (h : DkP w a mb ms most true 0 down) (fv : Value) :
    Calls Try.prog 56 #[.pointer (some ⟨a, 0, none⟩), fv] w fun e w' => e = .returned (.int .i64 15) ∧ DkP w' a mb ms most false 0 true ∧ Away (fun b => b = a) w w' := by
  have c3 : w.cell? ⟨a, 3, none⟩ = some (.bool true) := h.cell 3
  have c4 : w.cell? ⟨a, 4, none⟩ = some (.int .i64 0) := h.cell 4
  have c5 : w.cell? ⟨a, 5, none⟩ = some (.bool down) := h.cell 5
  have f3 := h.free 3
  have f5 := h.free 5
  go_enter Try.func56, Try.ntmps56
  go_wp2_with fail
  go_ret
  have hA : Away (fun b => b = a) w ((w.setCell ⟨a, 5, none⟩ (.bool true)).setCell ⟨a, 3, none⟩ (.bool false)) := (Away.setCell w ⟨a, 5, none⟩ _).trans (Away.setCell _ ⟨a, 3, none⟩ _) fun b e => .inl e
  have hne := h.ne_map
  refine ⟨rfl, ⟨?_, h.files.away hA fun b hb e => ?_⟩, hA⟩
  · rw [set_blk (set_blk h.blk 5 _) 3]
    rfl
  · subst e
    rcases hb with e | ⟨p, hp, hg⟩
    · exact hne e.symm
    · exact (h.ne_row (h.files.rows p hp) hg).1 rfl
theorem DkP.less {w : World} {a mb : Nat} {ms : List (Nm × Raw)} {most : Nat} {armed : Bool} {lv : Int} {down : Bool} (h : DkP w a mb ms most armed lv down) (n : Int) :
    DkP (w.setCell ⟨a, 4, none⟩ (.int .i64 n)) a mb ms most armed n down ∧ Away (fun b => b = a) w (w.setCell ⟨a, 4, none⟩ (.int .i64 n)) := by
  have hA : Away (fun b => b = a) w (w.setCell ⟨a, 4, none⟩ (.int .i64 n)) := Away.setCell w ⟨a, 4, none⟩ _
  have hne := h.ne_map
  refine ⟨⟨?_, h.files.away hA fun b hb e => ?_⟩, hA⟩
  · rw [set_blk h.blk 4]
    rfl
  · subst e
    rcases hb with e | ⟨p, hp, hg⟩
    · exact hne e.symm
    · exact (h.ne_row (h.files.rows p hp) hg).1 rfl

set_option maxRecDepth 100000 in
set_option maxHeartbeats 1000000 in
theorem operate_Append {w : World} {a mb : Nat} {ms : List (Nm × Raw)} {most : Nat} {lv : Int} {down : Bool} (h : DkP w a mb ms most false lv down) (p0 p1 p2 p3 : Addr) (R : World → Prop)
    (hf : Calls Try.prog 57 #[.pointer (some p0), .pointer (some p1), .pointer (some p2), .pointer (some p3)] w fun e w' => e = .returned (.tuple #[]) ∧ R w') :
    Calls Try.prog 56 #[.pointer (some ⟨a, 0, none⟩), .func (.func 57) #[] #[.pointer (some p0), .pointer (some p1), .pointer (some p2), .pointer (some p3)]] w fun e w' => e = .returned (.int .i64 0) ∧ R w' := by
  have c3 : w.cell? ⟨a, 3, none⟩ = some (.bool false) := h.cell 3
  go_enter Try.func56, Try.ntmps56
  go_wp2_with fail
  refine hf.mono ?_
  rintro e w' ⟨rfl, hR⟩
  go_wp2_with fail
  go_ret
  exact ⟨rfl, hR⟩
set_option maxRecDepth 100000 in
set_option maxHeartbeats 1000000 in
theorem operateOn_Append {w : World} {a mb : Nat} {ms : List (Nm × Raw)} {most : Nat} {n : Nat} {down : Bool} (h : DkP w a mb ms most true ((n : Int) + 1) down) (hn : n + 1 < 9223372036854775808) (p0 p1 p2 p3 : Addr) (R : World → Prop)
    (hf : Calls Try.prog 57 #[.pointer (some p0), .pointer (some p1), .pointer (some p2), .pointer (some p3)] (w.setCell ⟨a, 4, none⟩ (.int .i64 (n : Int))) fun e w' => e = .returned (.tuple #[]) ∧ R w') :
    Calls Try.prog 56 #[.pointer (some ⟨a, 0, none⟩), .func (.func 57) #[] #[.pointer (some p0), .pointer (some p1), .pointer (some p2), .pointer (some p3)]] w fun e w' => e = .returned (.int .i64 0) ∧ R w' := by
  have c3 : w.cell? ⟨a, 3, none⟩ = some (.bool true) := h.cell 3
  have c4 : w.cell? ⟨a, 4, none⟩ = some (.int .i64 ((n : Int) + 1)) := h.cell 4
  have f4 := h.free 4
  have h1 : (((n : Int) + 1) == 0) = false := beq_eq_false_iff_ne.2 (by omega)
  go_enter Try.func56, Try.ntmps56
  go_wp2_with fail
  refine hf.mono ?_
  rintro e w' ⟨rfl, hR⟩
  go_wp2_with fail
  go_ret
  exact ⟨rfl, hR⟩

set_option maxRecDepth 100000 in
set_option maxHeartbeats 1000000 in
theorem operate_Cut {w : World} {a mb : Nat} {ms : List (Nm × Raw)} {most : Nat} {lv : Int} {down : Bool} (h : DkP w a mb ms most false lv down) (p0 p1 p2 p3 : Addr) (R : World → Prop)
    (hf : Calls Try.prog 60 #[.pointer (some p0), .pointer (some p1), .pointer (some p2), .pointer (some p3)] w fun e w' => e = .returned (.tuple #[]) ∧ R w') :
    Calls Try.prog 56 #[.pointer (some ⟨a, 0, none⟩), .func (.func 60) #[] #[.pointer (some p0), .pointer (some p1), .pointer (some p2), .pointer (some p3)]] w fun e w' => e = .returned (.int .i64 0) ∧ R w' := by
  have c3 : w.cell? ⟨a, 3, none⟩ = some (.bool false) := h.cell 3
  go_enter Try.func56, Try.ntmps56
  go_wp2_with fail
  refine hf.mono ?_
  rintro e w' ⟨rfl, hR⟩
  go_wp2_with fail
  go_ret
  exact ⟨rfl, hR⟩
set_option maxRecDepth 100000 in
set_option maxHeartbeats 1000000 in
theorem operateOn_Cut {w : World} {a mb : Nat} {ms : List (Nm × Raw)} {most : Nat} {n : Nat} {down : Bool} (h : DkP w a mb ms most true ((n : Int) + 1) down) (hn : n + 1 < 9223372036854775808) (p0 p1 p2 p3 : Addr) (R : World → Prop)
    (hf : Calls Try.prog 60 #[.pointer (some p0), .pointer (some p1), .pointer (some p2), .pointer (some p3)] (w.setCell ⟨a, 4, none⟩ (.int .i64 (n : Int))) fun e w' => e = .returned (.tuple #[]) ∧ R w') :
    Calls Try.prog 56 #[.pointer (some ⟨a, 0, none⟩), .func (.func 60) #[] #[.pointer (some p0), .pointer (some p1), .pointer (some p2), .pointer (some p3)]] w fun e w' => e = .returned (.int .i64 0) ∧ R w' := by
  have c3 : w.cell? ⟨a, 3, none⟩ = some (.bool true) := h.cell 3
  have c4 : w.cell? ⟨a, 4, none⟩ = some (.int .i64 ((n : Int) + 1)) := h.cell 4
  have f4 := h.free 4
  have h1 : (((n : Int) + 1) == 0) = false := beq_eq_false_iff_ne.2 (by omega)
  go_enter Try.func56, Try.ntmps56
  go_wp2_with fail
  refine hf.mono ?_
  rintro e w' ⟨rfl, hR⟩
  go_wp2_with fail
  go_ret
  exact ⟨rfl, hR⟩

set_option maxRecDepth 100000 in
set_option maxHeartbeats 1000000 in
theorem operate_Sync {w : World} {a mb : Nat} {ms : List (Nm × Raw)} {most : Nat} {lv : Int} {down : Bool} (h : DkP w a mb ms most false lv down) (p0 p1 p2 : Addr) (R : World → Prop)
    (hf : Calls Try.prog 63 #[.pointer (some p0), .pointer (some p1), .pointer (some p2)] w fun e w' => e = .returned (.tuple #[]) ∧ R w') :
    Calls Try.prog 56 #[.pointer (some ⟨a, 0, none⟩), .func (.func 63) #[] #[.pointer (some p0), .pointer (some p1), .pointer (some p2)]] w fun e w' => e = .returned (.int .i64 0) ∧ R w' := by
  have c3 : w.cell? ⟨a, 3, none⟩ = some (.bool false) := h.cell 3
  go_enter Try.func56, Try.ntmps56
  go_wp2_with fail
  refine hf.mono ?_
  rintro e w' ⟨rfl, hR⟩
  go_wp2_with fail
  go_ret
  exact ⟨rfl, hR⟩
set_option maxRecDepth 100000 in
set_option maxHeartbeats 1000000 in
theorem operateOn_Sync {w : World} {a mb : Nat} {ms : List (Nm × Raw)} {most : Nat} {n : Nat} {down : Bool} (h : DkP w a mb ms most true ((n : Int) + 1) down) (hn : n + 1 < 9223372036854775808) (p0 p1 p2 : Addr) (R : World → Prop)
    (hf : Calls Try.prog 63 #[.pointer (some p0), .pointer (some p1), .pointer (some p2)] (w.setCell ⟨a, 4, none⟩ (.int .i64 (n : Int))) fun e w' => e = .returned (.tuple #[]) ∧ R w') :
    Calls Try.prog 56 #[.pointer (some ⟨a, 0, none⟩), .func (.func 63) #[] #[.pointer (some p0), .pointer (some p1), .pointer (some p2)]] w fun e w' => e = .returned (.int .i64 0) ∧ R w' := by
  have c3 : w.cell? ⟨a, 3, none⟩ = some (.bool true) := h.cell 3
  have c4 : w.cell? ⟨a, 4, none⟩ = some (.int .i64 ((n : Int) + 1)) := h.cell 4
  have f4 := h.free 4
  have h1 : (((n : Int) + 1) == 0) = false := beq_eq_false_iff_ne.2 (by omega)
  go_enter Try.func56, Try.ntmps56
  go_wp2_with fail
  refine hf.mono ?_
  rintro e w' ⟨rfl, hR⟩
  go_wp2_with fail
  go_ret
  exact ⟨rfl, hR⟩

set_option maxRecDepth 100000 in
set_option maxHeartbeats 1000000 in
theorem operate_Remove {w : World} {a mb : Nat} {ms : List (Nm × Raw)} {most : Nat} {lv : Int} {down : Bool} (h : DkP w a mb ms most false lv down) (p0 p1 : Addr) (R : World → Prop)
    (hf : Calls Try.prog 64 #[.pointer (some p0), .pointer (some p1)] w fun e w' => e = .returned (.tuple #[]) ∧ R w') :
    Calls Try.prog 56 #[.pointer (some ⟨a, 0, none⟩), .func (.func 64) #[] #[.pointer (some p0), .pointer (some p1)]] w fun e w' => e = .returned (.int .i64 0) ∧ R w' := by
  have c3 : w.cell? ⟨a, 3, none⟩ = some (.bool false) := h.cell 3
  go_enter Try.func56, Try.ntmps56
  go_wp2_with fail
  refine hf.mono ?_
  rintro e w' ⟨rfl, hR⟩
  go_wp2_with fail
  go_ret
  exact ⟨rfl, hR⟩
set_option maxRecDepth 100000 in
set_option maxHeartbeats 1000000 in
theorem operateOn_Remove {w : World} {a mb : Nat} {ms : List (Nm × Raw)} {most : Nat} {n : Nat} {down : Bool} (h : DkP w a mb ms most true ((n : Int) + 1) down) (hn : n + 1 < 9223372036854775808) (p0 p1 : Addr) (R : World → Prop)
    (hf : Calls Try.prog 64 #[.pointer (some p0), .pointer (some p1)] (w.setCell ⟨a, 4, none⟩ (.int .i64 (n : Int))) fun e w' => e = .returned (.tuple #[]) ∧ R w') :
    Calls Try.prog 56 #[.pointer (some ⟨a, 0, none⟩), .func (.func 64) #[] #[.pointer (some p0), .pointer (some p1)]] w fun e w' => e = .returned (.int .i64 0) ∧ R w' := by
  have c3 : w.cell? ⟨a, 3, none⟩ = some (.bool true) := h.cell 3
  have c4 : w.cell? ⟨a, 4, none⟩ = some (.int .i64 ((n : Int) + 1)) := h.cell 4
  have f4 := h.free 4
  have h1 : (((n : Int) + 1) == 0) = false := beq_eq_false_iff_ne.2 (by omega)
  go_enter Try.func56, Try.ntmps56
  go_wp2_with fail
  refine hf.mono ?_
  rintro e w' ⟨rfl, hR⟩
  go_wp2_with fail
  go_ret
  exact ⟨rfl, hR⟩

set_option maxRecDepth 100000 in
set_option maxHeartbeats 1000000 in
theorem operate_Rename {w : World} {a mb : Nat} {ms : List (Nm × Raw)} {most : Nat} {lv : Int} {down : Bool} (h : DkP w a mb ms most false lv down) (p0 p1 p2 p3 : Addr) (R : World → Prop)
    (hf : Calls Try.prog 66 #[.pointer (some p0), .pointer (some p1), .pointer (some p2), .pointer (some p3)] w fun e w' => e = .returned (.tuple #[]) ∧ R w') :
    Calls Try.prog 56 #[.pointer (some ⟨a, 0, none⟩), .func (.func 66) #[] #[.pointer (some p0), .pointer (some p1), .pointer (some p2), .pointer (some p3)]] w fun e w' => e = .returned (.int .i64 0) ∧ R w' := by
  have c3 : w.cell? ⟨a, 3, none⟩ = some (.bool false) := h.cell 3
  go_enter Try.func56, Try.ntmps56
  go_wp2_with fail
  refine hf.mono ?_
  rintro e w' ⟨rfl, hR⟩
  go_wp2_with fail
  go_ret
  exact ⟨rfl, hR⟩
set_option maxRecDepth 100000 in
set_option maxHeartbeats 1000000 in
theorem operateOn_Rename {w : World} {a mb : Nat} {ms : List (Nm × Raw)} {most : Nat} {n : Nat} {down : Bool} (h : DkP w a mb ms most true ((n : Int) + 1) down) (hn : n + 1 < 9223372036854775808) (p0 p1 p2 p3 : Addr) (R : World → Prop)
    (hf : Calls Try.prog 66 #[.pointer (some p0), .pointer (some p1), .pointer (some p2), .pointer (some p3)] (w.setCell ⟨a, 4, none⟩ (.int .i64 (n : Int))) fun e w' => e = .returned (.tuple #[]) ∧ R w') :
    Calls Try.prog 56 #[.pointer (some ⟨a, 0, none⟩), .func (.func 66) #[] #[.pointer (some p0), .pointer (some p1), .pointer (some p2), .pointer (some p3)]] w fun e w' => e = .returned (.int .i64 0) ∧ R w' := by
  have c3 : w.cell? ⟨a, 3, none⟩ = some (.bool true) := h.cell 3
  have c4 : w.cell? ⟨a, 4, none⟩ = some (.int .i64 ((n : Int) + 1)) := h.cell 4
  have f4 := h.free 4
  have h1 : (((n : Int) + 1) == 0) = false := beq_eq_false_iff_ne.2 (by omega)
  go_enter Try.func56, Try.ntmps56
  go_wp2_with fail
  refine hf.mono ?_
  rintro e w' ⟨rfl, hR⟩
  go_wp2_with fail
  go_ret
  exact ⟨rfl, hR⟩
end Go.Proofs.Ytdcflgblaljdeaa
