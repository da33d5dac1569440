/-
  The disk's own calls within: drop, first, find.
-/
import Derived.Test.YtdcflgblaljdeaaDkCore
import Derived.Maps.OwnSet
set_option linter.unusedVariables false
set_option linter.unusedSimpArgs false
namespace Go.Proofs.Ytdcflgblaljdeaa
open Go.RowKit Go.Maps
open Go.Lib (byteCells byteCells_length byteCells_append)

set_option maxRecDepth 100000 in
set_option maxHeartbeats 1000000 in
theorem drop_any {w : World} {a mb : Nat} {ms : List (Nm × Raw)} {most : Nat} {armed : Bool} {lv : Int} {down : Bool} (h : DkP w a mb ms most armed lv down) (s : ByteArray) (hs : s.size ≤ maxLen) (hu : usedR ms ≤ 16777216) :
    Calls Try.prog 65 #[.pointer (some ⟨a, 0, none⟩), .string s] w fun e w' =>
      e = .returned (.tuple #[]) ∧ DkP w' a mb (adel s.data.toList ms) most armed lv down ∧ Away (fun b => b = a ∨ b = mb) w w' := by
  obtain ⟨o, ho⟩ : ∃ o, atR ms s.data.toList = o := ⟨_, rfl⟩
  have hou : usedR (adel s.data.toList ms) + o.c.1.length = usedR ms := by
    have := asum_adel (g := fun r : Raw => r.c.1.length) h.files.rise s.data.toList
    unfold usedR
    rw [this, ← ho]
    unfold atR
    cases aget s.data.toList ms with
    | none => simp [Raw.zero]
    | some d => simp
  have hlk0 := look_run (w := w.drew) h.files.own hs
  rw [ho] at hlk0
  obtain ⟨no, hno⟩ : ∃ n, o.c.1.length = n := ⟨_, rfl⟩
  have hlk : (Instr.lookup 61 (.map (some mb)) (.string s) false).run Try.prog w.drew = .ok (.agg #[.slice (o.g.map fun b => ⟨b, 0, none⟩) no o.cap, .int .i64 (o.c.2 : Int)]) w.drew := by
    rw [hlk0]
    unfold Raw.val Raw.sl
    rw [hno]
  rw [hno] at hou
  have hfd := fun (w : World) => field0 w (o.g.map fun b => ⟨b, 0, none⟩) no o.cap (.int .i64 (o.c.2 : Int))
  have c1 : w.cell? ⟨a, 1, none⟩ = some (.int .i64 (usedR ms : Int)) := h.cell 1
  have c2 : w.cell? ⟨a, 2, none⟩ = some (.map (some mb)) := h.cell 2
  have f1 := h.free 1
  have hv : (usedR ms : Int) - (no : Int) = ((usedR (adel s.data.toList ms) : Nat) : Int) := by omega
  have hno_le : no ≤ usedR ms := by omega
  have h2 : (w.setCell ⟨a, 1, none⟩ (.int .i64 ((usedR ms : Int) - (no : Int)))).drew.heap[a]? = some (.cells (cellsD most (usedR (adel s.data.toList ms)) mb armed lv down) 63 (0, 0)) := by
    rw [show (w.setCell ⟨a, 1, none⟩ (.int .i64 ((usedR ms : Int) - (no : Int)))).drew.heap = (w.setCell ⟨a, 1, none⟩ (.int .i64 ((usedR ms : Int) - (no : Int)))).heap from rfl, set_blk h.blk, hv]
    rfl
  have hA2 : Away (fun b => b = a) w (w.setCell ⟨a, 1, none⟩ (.int .i64 ((usedR ms : Int) - (no : Int)))).drew := (Away.setCell w ⟨a, 1, none⟩ _).drew
  have hne := h.ne_map
  have hf2 : DkR (w.setCell ⟨a, 1, none⟩ (.int .i64 ((usedR ms : Int) - (no : Int)))).drew mb ms := h.files.away hA2 fun b hb e => by
    subst e
    rcases hb with e | ⟨p, hp, hg⟩
    · exact hne e.symm
    · exact (h.ne_row (h.files.rows p hp) hg).1 rfl
  obtain ⟨w', hrun, ho', ht⟩ := drop_run hf2.own hs 0
  have hrun2 : ∀ ty, (Builtin.delete_ #[61, 9] ty #[.map (some mb), .string s]).run Try.prog (w.setCell ⟨a, 1, none⟩ (.int .i64 ((usedR ms : Int) - (no : Int)))).drew = .ok (.tuple #[]) w' := fun _ => hrun
  have hft := Away.of_turned ht
  have hA3 := (hA2.mono (F' := fun b => b = a ∨ b = mb) fun b _ e => .inl e).trans hft fun b e => .inl (.inr e)
  clear hlk0 hno ho hrun hv
  have hfin : DkP w' a mb (adel s.data.toList ms) most armed lv down ∧ Away (fun b => b = a ∨ b = mb) w w' := by
    refine ⟨⟨(hft.block a (Array.getElem?_eq_some_iff.1 h2).1 hne.symm).trans h2, ⟨ho', rising_adel hf2.rise _, fun p hp => ?_, ?_⟩⟩, hA3⟩
    · have hp := (mem_adel.1 hp).1
      exact (hf2.rows p hp).away hft fun b hb => hf2.ne_map (hf2.rows p hp) hb
    · exact List.Pairwise.filter _ hf2.apart
  have HF := Lib.hid hfin
  clear hfin hA2 hA3 hf2 h2 ho' ht hft hou hne h
  go_enter Try.func65, Try.ntmps65
  go_wp2_with fail
  go_region
  all_goals go_wp2
  all_goals go_end0
  exact ⟨rfl, HF.out⟩
end Go.Proofs.Ytdcflgblaljdeaa
