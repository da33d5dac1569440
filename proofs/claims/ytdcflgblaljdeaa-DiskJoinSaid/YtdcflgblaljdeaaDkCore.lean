/-
  The disk's own calls within: made, ready, put, drop.
-/
import Derived.Test.YtdcflgblaljdeaaDkOps
set_option linter.unusedVariables false
set_option linter.unusedSimpArgs false
namespace Go.Proofs.Ytdcflgblaljdeaa
open Go.RowKit Go.Maps

theorem field0 (w : World) (A : Option Addr) (n c : Nat) (y : Value) : (Instr.field 97 (.agg #[.slice A n c, y]) 0).run Try.prog w = .ok (.slice A n c) w := by kernel_rfl
theorem field1 (w : World) (x : Value) (n : Int) : (Instr.field 97 (.agg #[x, .int .i64 n]) 1).run Try.prog w = .ok (.int .i64 n) w := by kernel_rfl
theorem wrap64_of {x : Int} (h0 : -9223372036854775808 ≤ x) (h1 : x ≤ 9223372036854775807) : wrap64 x = x := by unfold wrap64; omega
theorem set_blk {w : World} {g : Nat} {t : TypeId} {cs : Array Value} (h : w.heap[g]? = some (.cells cs t (0, 0))) (i : Nat) (u : Value) : (w.setCell ⟨g, i, none⟩ u).heap[g]? = some (.cells (cs.setIfInBounds i u) t (0, 0)) := by
  simp [World.setCell, Array.getElem?_modify, h]
theorem apart_of {ms : List (Nm × Raw)} (hr : Rising ms) (h : ∀ p ∈ ms, ∀ q ∈ ms, p.1 ≠ q.1 → ∀ b, p.2.g = some b → q.2.g ≠ some b) : ms.Pairwise fun p q => ∀ b, p.2.g = some b → q.2.g ≠ some b :=
  List.Pairwise.imp_of_mem (fun hp hq hne => h _ hp _ hq hne) (rising_ne hr)
theorem free_of_row {w : World} {b : Nat} {cs : Array Value} {t : TypeId} (h : w.heap[b]? = some (.cells cs t (0, 0))) (i : Nat) : w.frozen? ⟨b, i, none⟩ = false := by
  simp [World.frozen?, h]
theorem DkR.ne_map {w : World} {mb : Nat} {ms : List (Nm × Raw)} (h : DkR w mb ms) {r : Raw} (hr : FRow w r) {b : Nat} (hb : r.g = some b) : b ≠ mb := by
  rcases hr.2 with ⟨hv, _⟩ | ⟨g, cap, cur, hv, hbg, hg, _⟩
  · have := Raw.own r
    rw [hv, hb] at this
    cases this
  · have := Raw.own r
    rw [hv, hb] at this
    have e : g = b := by injection this
    subst e
    rintro rfl
    obtain ⟨es, clock, hm, _⟩ := h.own
    rw [hg] at hm
    cases hm
theorem ret_i64 {a b : Int} (h : a = b) : Ending.returned (.int .i64 a) = .returned (.int .i64 b) := by rw [h]
section
variable {w : World} {a mb : Nat} {ms : List (Nm × Raw)} {most : Nat} {armed : Bool} {lv : Int} {down : Bool}
theorem DkP.cell (h : DkP w a mb ms most armed lv down) (i : Nat) : w.cell? ⟨a, i, none⟩ = (cellsD most (usedR ms) mb armed lv down)[i]? := cell_of_row w a i _ _ _ h.blk
theorem DkP.free (h : DkP w a mb ms most armed lv down) (i : Nat) : w.frozen? ⟨a, i, none⟩ = false := by
  simp [World.frozen?, h.blk]

set_option maxRecDepth 100000 in
theorem made_any (h : DkP w a mb ms most armed lv down) : Calls Try.prog 62 #[.pointer (some ⟨a, 0, none⟩)] w fun e w' => e = .returned (.bool true) ∧ w = w' := by
  have c2 : w.cell? ⟨a, 2, none⟩ = some (.map (some mb)) := h.cell 2
  have qn := fun (w : World) => run_neq_map_nil (P := Try.prog) w 61 _ _ (some mb) Try.underlying61
  go_enter Try.func62, Try.ntmps62
  go_wp2_with fail
  go_ret
  exact ⟨rfl, rfl⟩
set_option maxRecDepth 100000 in
theorem ready_any (h : DkP w a mb ms most armed lv down) : Calls Try.prog 54 #[.pointer (some ⟨a, 0, none⟩)] w fun e w' => e = .returned (.int .i64 (if down then 15 else 0)) ∧ w = w' := by
  have c5 : w.cell? ⟨a, 5, none⟩ = some (.bool down) := h.cell 5
  go_enter Try.func54, Try.ntmps54
  go_wp2_with fail
  refine (made_any h).mono ?_
  rintro e w' ⟨rfl, rfl⟩
  cases down
  · go_wp2_with fail
    go_ret
    exact ⟨rfl, rfl⟩
  · go_wp2_with fail
    go_ret
    exact ⟨rfl, rfl⟩
end

set_option maxRecDepth 100000 in
set_option maxHeartbeats 1000000 in
theorem put_any {w : World} {a mb : Nat} {ms : List (Nm × Raw)} {most : Nat} {armed : Bool} {lv : Int} {down : Bool} (s : ByteArray) (h : DkQ w a mb s.data.toList ms most armed lv down) (hs : s.size ≤ maxLen) (r : Raw) (hr : FRow w r)
    (hap : ∀ p ∈ ms, p.1 ≠ s.data.toList → ∀ b, r.g = some b → p.2.g ≠ some b) (hu : usedR ms ≤ 16777216) (hl : ms.length ≤ 1000) (hrl : r.c.1.length ≤ 16777216) :
    Calls Try.prog 58 #[.pointer (some ⟨a, 0, none⟩), .string s, r.val] w fun e w' =>
      e = .returned (.tuple #[]) ∧ DkP w' a mb (aput s.data.toList r ms) most armed lv down ∧ Away (fun b => b = a ∨ b = mb) w w' := by
  obtain ⟨g0, hg0⟩ : ∃ g0, w.heap.size = g0 := ⟨_, rfl⟩
  have hB := (Below.refl w.heap.size w).alloc (Nat.le_refl _) (.cells #[r.sl, .int .i64 (r.c.2 : Int)] 97)
  have hq := heap_alloc_new w (.cells #[r.sl, .int .i64 (r.c.2 : Int)] 97)
  rw [hg0] at hq
  have hal := h.lt
  rw [hg0] at hal
  have hfl : ∀ b, FootQ mb s.data.toList ms b → b < g0 := fun b hb => by rw [← hg0]; exact h.ltF hb
  have hrl' : ∀ b, r.g = some b → b < g0 := fun b hb => by rw [← hg0]; exact hr.lt hb
  have hA : Away (fun b => b = a ∨ b = mb) w (w.alloc (.cells #[r.sl, .int .i64 (r.c.2 : Int)] 97)) := Away.of_new hB _
  have h1 := h.away (Away.of_below hB) (by omega) fun b hb => by have := hfl b hb; omega
  have hr1 := hr.away (Away.of_below hB) fun b hb => by have := hrl' b hb; omega
  have hx0 : (w.alloc (.cells #[r.sl, .int .i64 (r.c.2 : Int)] 97)).cell? ⟨g0, 0, none⟩ = some r.sl := cell_of_row _ _ 0 _ _ _ hq
  have hx1 : (w.alloc (.cells #[r.sl, .int .i64 (r.c.2 : Int)] 97)).cell? ⟨g0, 1, none⟩ = some (.int .i64 (r.c.2 : Int)) := cell_of_row _ _ 1 _ _ _ hq
  obtain ⟨o, ho⟩ : ∃ o, atR ms s.data.toList = o := ⟨_, rfl⟩
  have hou : usedR (aput s.data.toList r ms) + o.c.1.length = usedR ms + r.c.1.length := by
    have := asum_aput (g := fun r : Raw => r.c.1.length) h.rise s.data.toList r
    rw [← ho]
    unfold usedR atR
    cases hg : aget s.data.toList ms with
    | none => rw [hg] at this; exact this
    | some d => rw [hg] at this; exact this
  have hno_le : o.c.1.length ≤ usedR ms := by
    have := asum_adel (g := fun r : Raw => r.c.1.length) h.rise s.data.toList
    unfold usedR
    rw [this, ← ho]
    unfold atR
    cases aget s.data.toList ms with
    | none => simp [Raw.zero]
    | some d => simp
  have HO := Lib.hid ho
  clear ho
  unfold Raw.val
  have hsl : ∀ q : Raw, q.sl = .slice (q.g.map fun b => ⟨b, 0, none⟩) q.c.1.length q.cap := fun _ => rfl
  obtain ⟨no, hno⟩ : ∃ n, o.c.1.length = n := ⟨_, rfl⟩
  obtain ⟨nr, hnr⟩ : ∃ n, r.c.1.length = n := ⟨_, rfl⟩
  have HNO := Lib.hid hno
  rw [hno] at hou hno_le
  have hsr := hsl r
  rw [hnr] at hsr hou hrl
  have HSR := Lib.hid hsr
  have HOU := Lib.hid hou
  obtain ⟨vr, hvr⟩ : ∃ v, r.sl = v := ⟨_, rfl⟩
  have c1 := cell_of_row _ a 1 _ _ _ h1.blk
  have c2 := cell_of_row _ a 2 _ _ _ h1.blk
  have f1 := free_of_row h1.blk 1
  simp only [cellsD, List.getElem?_toArray, List.getElem?_cons_succ, List.getElem?_cons_zero] at c1 c2
  have hB' : Hid (Below w.heap.size w (w.alloc (.cells #[r.sl, .int .i64 (r.c.2 : Int)] 97))) := hB
  clear hsl hsr hno hnr hq hvr hou hB h hr
  go_enter Try.func58, Try.ntmps58
  go_wp2_with fail
  generalize w.alloc (.cells #[r.sl, .int .i64 (r.c.2 : Int)] 97) = wb at *
  rw [HSR.out] at hx0
  have hlk2 : (Instr.lookup 61 (.map (some mb)) (.string s) false).run Try.prog wb.drew = .ok (.agg #[.slice (o.g.map fun b => ⟨b, 0, none⟩) no o.cap, .int .i64 (o.c.2 : Int)]) wb.drew := by
    have := look_run (w := wb.drew) h1.own hs
    rw [HO.out] at this
    unfold Raw.val Raw.sl at this
    rw [HNO.out] at this
    exact this
  have hfd := fun (w : World) => field0 w (o.g.map fun b => ⟨b, 0, none⟩) no o.cap (.int .i64 (o.c.2 : Int))
  go_region
  go_wp2_with fail
  have hv : (usedR ms : Int) + ((nr : Int) - (no : Int)) = ((usedR (aput s.data.toList r ms) : Nat) : Int) := by
    have e := HOU.out
    omega
  rw [hv]
  clear hv hlk2 hfd
  have hwb : a < wb.heap.size := h1.lt
  have h2 : (wb.setCell ⟨a, 1, none⟩ (.int .i64 ((usedR (aput s.data.toList r ms) : Nat) : Int))).drew.heap[a]? = some (.cells (cellsD most (usedR (aput s.data.toList r ms)) mb armed lv down) 63 (0, 0)) := by
    rw [show (wb.setCell ⟨a, 1, none⟩ (.int .i64 ((usedR (aput s.data.toList r ms) : Nat) : Int))).drew.heap = (wb.setCell ⟨a, 1, none⟩ (.int .i64 ((usedR (aput s.data.toList r ms) : Nat) : Int))).heap from rfl, set_blk h1.blk]
    rfl
  have hA2 : Away (fun b => b = a) wb (wb.setCell ⟨a, 1, none⟩ (.int .i64 ((usedR (aput s.data.toList r ms) : Nat) : Int))).drew := (Away.setCell wb ⟨a, 1, none⟩ _).drew
  have hne := h1.ne_map
  have hf2 : (wb.setCell ⟨a, 1, none⟩ (.int .i64 ((usedR (aput s.data.toList r ms) : Nat) : Int))).drew.ownsMap Try.prog 9 asIs mb ms.length (dmap (amap Raw.val ms)) := by
    have := own_away (l := amap Raw.val ms) (by simpa [amap] using h1.own) hA2 hne
    simpa [amap] using this
  have hf3 : ∀ p ∈ ms, p.1 ≠ s.data.toList → FRow (wb.setCell ⟨a, 1, none⟩ (.int .i64 ((usedR (aput s.data.toList r ms) : Nat) : Int))).drew p.2 := fun p hp hn => (h1.rows p hp hn).away hA2 fun b hb => (h1.ne_row (h1.rows p hp hn) hb).1
  have hr2 : FRow (wb.setCell ⟨a, 1, none⟩ (.int .i64 ((usedR (aput s.data.toList r ms) : Nat) : Int))).drew r := hr1.away hA2 fun b hb => (h1.ne_row hr1 hb).1
  have hx0' := (congrFun (congrArg World.cell? rfl) _ : (wb.setCell ⟨a, 1, none⟩ (.int .i64 ((usedR (aput s.data.toList r ms) : Nat) : Int))).drew.cell? ⟨g0, 0, none⟩ = _).trans ((World.cell?_setCell_other wb ⟨a, 1, none⟩ ⟨g0, 0, none⟩ _ (fun e => by injection e with e; omega)).trans hx0)
  have hx1' := (congrFun (congrArg World.cell? rfl) _ : (wb.setCell ⟨a, 1, none⟩ (.int .i64 ((usedR (aput s.data.toList r ms) : Nat) : Int))).drew.cell? ⟨g0, 1, none⟩ = _).trans ((World.cell?_setCell_other wb ⟨a, 1, none⟩ ⟨g0, 1, none⟩ _ (fun e => by injection e with e; omega)).trans hx1)
  have hA3 := hA.trans hA2 fun b e => .inl (.inl e)
  have hnr1 : ∀ b, r.g = some b → b ≠ a ∧ b ≠ mb := fun b hb => h1.ne_row hr1 hb
  clear hA hA2 hB' hx0 hx1 f1 c1 c2 hr1
  generalize (wb.setCell ⟨a, 1, none⟩ (.int .i64 ((usedR (aput s.data.toList r ms) : Nat) : Int))).drew = wc at *
  have c2 : wc.cell? ⟨a, 2, none⟩ = some (.map (some mb)) := cell_of_row wc a 2 _ _ _ h2
  obtain ⟨w', hrun, ho', ht⟩ := store_run (w := wc.drew) (mb := mb) (ms := ms) (show wc.drew.ownsMap Try.prog 9 asIs mb ms.length (dmap (amap Raw.val ms)) from hf2) (by unfold maxLen; omega) hs r
  unfold Raw.val at hrun
  rw [HSR.out] at hrun
  have hft := Away.of_turned ht
  have hA4 := (hA3.trans ((Away.refl (fun _ => False) wc).drew) fun b e => e.elim).trans hft fun b e => .inl (.inr e)
  go_region
  all_goals go_wp2
  all_goals go_end0
  have hwa : a < wc.heap.size := (Array.getElem?_eq_some_iff.1 h2).1
  refine ⟨rfl, ⟨(hft.block a hwa hne.symm).trans h2, ⟨ho', rising_aput h1.rise _ _, ?_, ?_⟩⟩, hA4⟩
  · intro p hp
    rcases mem_aput.1 hp with rfl | ⟨hp, hn⟩
    · exact (show FRow wc.drew r from hr2).away hft fun b hb => (hnr1 b hb).2
    · exact (show FRow wc.drew p.2 from hf3 p hp hn).away hft fun b hb => own_ne_row hf2 (hf3 p hp hn) hb
  · refine apart_of (rising_aput h1.rise _ _) fun p hp q hq hne b hb => ?_
    rcases mem_aput.1 hp with rfl | ⟨hp, hpn⟩ <;> rcases mem_aput.1 hq with rfl | ⟨hq, hqn⟩
    · exact absurd rfl hne
    · exact hap q hq hqn b hb
    · intro e
      exact hap p hp hpn b e hb
    · exact h1.apart p hp q hq hpn hqn hne b hb
end Go.Proofs.Ytdcflgblaljdeaa
