/-
  New, Read, Size, Synced, Used, Down, Arm as the document has them.
-/
import Derived.Test.YtdcflgblaljdeaaDkAppend
import Derived.Carry
set_option linter.unusedVariables false
set_option linter.unusedSimpArgs false
namespace Go.Proofs.Ytdcflgblaljdeaa
open Go.RowKit Go.Maps

theorem own_of_row {w : World} {r : Raw} (h : FRow w r) {base : Nat} (hb : ∀ b, r.g = some b → base ≤ b) : Own w base 5 r.sl r.c.1 := by
  refine ⟨h.1, ?_⟩
  rcases h.2 with hn | ⟨g, cap, cur, hv, hbg, hg, hr⟩
  · exact .inl hn
  · refine .inr ⟨g, cap, cur, hv, hb g ?_, hg, hr⟩
    have := Raw.own r
    rw [hv] at this
    exact this.symm

set_option maxRecDepth 100000 in
set_option maxHeartbeats 1000000 in
theorem new_bad (n : Int) (w : World) (h : n < 0 ∨ 16777216 < n) : Calls Try.prog 14 #[.int .i64 n] w fun e w' => e = .returned (.tuple #[.pointer none, .int .i64 2]) ∧ w = w' := by
  rcases h with h | h
  · go_enter Try.func14, Try.ntmps14
    go_wp2_with fail
    all_goals (go_ret2; exact ⟨rfl, rfl⟩)
  · have h0 : 0 ≤ n := by omega
    go_enter Try.func14, Try.ntmps14
    go_wp2_with fail
    all_goals (go_ret2; exact ⟨rfl, rfl⟩)
set_option maxRecDepth 100000 in
set_option maxHeartbeats 1000000 in
theorem new_any (n : Nat) (w : World) (h : n ≤ 16777216) : Calls Try.prog 14 #[.int .i64 (n : Int)] w fun e w' =>
    ∃ (a : Nat) (F : Nat → Prop), e = .returned (.tuple #[.pointer (some ⟨a, 0, none⟩), .int .i64 0]) ∧ Dk w' F a (St.new n) ∧ (∀ b, F b → w.heap.size ≤ b) ∧ Below w.heap.size w w' := by
  have hmm := @run_makeMap Try.prog
  have h1 : ¬ (16777216 : Int) < (n : Int) := by omega
  have hB := ((Below.refl w.heap.size w).alloc (Nat.le_refl _) (.map #[] 0)).alloc (by simp) (.cells (cellsD n 0 w.heap.size false 0 false) 63)
  have hfin : Dk ((w.alloc (.map #[] 0)).alloc (.cells (cellsD n 0 w.heap.size false 0 false) 63)) (fun b => w.heap.size ≤ b ∧ b < w.heap.size + 2) (w.heap.size + 1) (St.new n) := by
    have hsz : ((w.alloc (.map #[] 0)).alloc (.cells (cellsD n 0 w.heap.size false 0 false) 63)).heap.size = w.heap.size + 2 := by simp
    refine ⟨St.new_wf h, fun b hb => by rw [hsz]; exact hb.2, w.heap.size, [], 0, ⟨?_, ?_, List.Pairwise.nil, (fun _ hp => by cases hp), List.Pairwise.nil⟩, (fun _ e => by cases e), rfl, ?_⟩
    · have := heap_alloc_new (w.alloc (.map #[] 0)) (.cells (cellsD n 0 w.heap.size false 0 false) 63)
      rwa [show (w.alloc (.map #[] 0)).heap.size = w.heap.size + 1 by simp] at this
    · exact (World.ownsMap_made w Try.prog 9 asIs).alloc _
    · rintro b (rfl | rfl | ⟨p, hp, _⟩)
      · exact ⟨by omega, by omega⟩
      · exact ⟨by omega, by omega⟩
      · cases hp
  have HF := Lib.hid hfin
  clear hfin
  go_enter Try.func14, Try.ntmps14
  go_wp2_with fail
  go_ret2
  exact ⟨_, rfl, _, HF.out, fun b hb => hb.1, hB⟩

section
variable {w : World} {F : Nat → Prop} {a : Nat} {s : St}
set_option maxRecDepth 100000 in
set_option maxHeartbeats 1000000 in
theorem size_any (h : Dk w F a s) (nm : ByteArray) (hnm : nm.size ≤ maxLen) : Calls Try.prog 43 #[.pointer (some ⟨a, 0, none⟩), .string nm] w fun e w' =>
    e = .returned (.int .i64 ((((aget nm.data.toList s.fs).getD ([], 0)).1.length : Nat) : Int)) ∧ w = w' := by
  obtain ⟨_, hFl, mb, ms, lv, hp, hlv, hfs, hfoot⟩ := h
  rw [hfs, atR_c]
  have hlk := look_run hp.files.own hnm
  unfold Raw.val Raw.sl at hlk
  have hc2 : w.cell? ⟨a, 2, none⟩ = some (.map (some mb)) := hp.cell 2
  have hfd := fun (w : World) (A : Option Addr) (n c : Nat) (y : Value) => field0 w A n c y
  generalize (atR ms nm.data.toList).c.1.length = n at hlk ⊢
  clear hlv hfs
  go_enter Try.func43, Try.ntmps43
  go_wp2_with fail
  refine (made_any hp).mono ?_
  rintro e w' ⟨rfl, rfl⟩
  go_wp2_with fail
  go_ret
  exact ⟨rfl, rfl⟩
set_option maxRecDepth 100000 in
set_option maxHeartbeats 1000000 in
theorem synced_any (h : Dk w F a s) (nm : ByteArray) (hnm : nm.size ≤ maxLen) : Calls Try.prog 19 #[.pointer (some ⟨a, 0, none⟩), .string nm] w fun e w' =>
    e = .returned (.int .i64 ((((aget nm.data.toList s.fs).getD ([], 0)).2 : Nat) : Int)) ∧ w = w' := by
  obtain ⟨_, hFl, mb, ms, lv, hp, hlv, hfs, hfoot⟩ := h
  rw [hfs, atR_c]
  have hlk := look_run hp.files.own hnm
  unfold Raw.val Raw.sl at hlk
  have hc2 : w.cell? ⟨a, 2, none⟩ = some (.map (some mb)) := hp.cell 2
  have hfd := fun (w : World) (x : Value) (n : Int) => field1 w x n
  generalize (atR ms nm.data.toList).c.2 = n at hlk ⊢
  clear hlv hfs
  go_enter Try.func19, Try.ntmps19
  go_wp2_with fail
  refine (made_any hp).mono ?_
  rintro e w' ⟨rfl, rfl⟩
  go_wp2_with fail
  go_ret
  exact ⟨rfl, rfl⟩
set_option maxRecDepth 100000 in
set_option maxHeartbeats 1000000 in
theorem used_any (h : Dk w F a s) : Calls Try.prog 23 #[.pointer (some ⟨a, 0, none⟩)] w fun e w' => e = .returned (.int .i64 (s.used : Int)) ∧ w = w' := by
  obtain ⟨_, hFl, mb, ms, lv, hp, hlv, hfs, hfoot⟩ := h
  rw [used_of hfs]
  have hc1 : w.cell? ⟨a, 1, none⟩ = some (.int .i64 (usedR ms : Int)) := hp.cell 1
  clear hlv hfs
  go_enter Try.func23, Try.ntmps23
  go_wp2_with fail
  refine (made_any hp).mono ?_
  rintro e w' ⟨rfl, rfl⟩
  go_wp2_with fail
  go_ret
  exact ⟨rfl, rfl⟩
set_option maxRecDepth 100000 in
set_option maxHeartbeats 1000000 in
theorem down_any (h : Dk w F a s) : Calls Try.prog 28 #[.pointer (some ⟨a, 0, none⟩)] w fun e w' => e = .returned (.bool s.down) ∧ w = w' := by
  obtain ⟨_, hFl, mb, ms, lv, hp, hlv, hfs, hfoot⟩ := h
  have hc5 : w.cell? ⟨a, 5, none⟩ = some (.bool s.down) := hp.cell 5
  clear hlv hfs
  go_enter Try.func28, Try.ntmps28
  go_wp2_with fail
  refine (made_any hp).mono ?_
  rintro e w' ⟨rfl, rfl⟩
  go_wp2_with fail
  go_ret
  exact ⟨rfl, rfl⟩

def St.read (s : St) (nm : Nm) : List UInt8 × Nat := if s.down then ([], 15) else match aget nm s.fs with | none => ([], 13) | some c => (c.1, 0)
set_option maxRecDepth 100000 in
set_option maxHeartbeats 1000000 in
theorem read_any (h : Dk w F a s) (nm : ByteArray) (hnm : nm.size ≤ maxLen) : Calls Try.prog 16 #[.pointer (some ⟨a, 0, none⟩), .string nm] w fun e w' =>
    ∃ v, e = .returned (.tuple #[v, .int .i64 ((s.read nm.data.toList).2 : Int)]) ∧ Own w' w.heap.size 5 v (s.read nm.data.toList).1 ∧ Below w.heap.size w w' := by
  have hwf := h.1
  obtain ⟨_, hFl, mb, ms, lv, hp, hlv, hfs, hfoot⟩ := h
  by_cases hd : s.down = true
  · have HR : Hid (s.read nm.data.toList = ([], 15)) := by show _ = _; unfold St.read; rw [if_pos hd]
    rw [hd] at hp
    rw [HR.out]
    clear hlv hfs hwf
    go_enter Try.func16, Try.ntmps16
    go_wp2_with fail
    refine (find_down hp nm).mono ?_
    rintro e w1 ⟨rfl, hb1⟩
    unfold Raw.zero Raw.val Raw.sl
    go_wp2_with fail
    go_ret2
    exact ⟨_, rfl, Own.nil _ _ _, hb1.alloc hb1.size _⟩
  · have hd : s.down = false := by simpa using hd
    rw [hd] at hp
    cases hat : aget nm.data.toList s.fs with
    | none =>
      have HR : Hid (s.read nm.data.toList = ([], 13)) := by show _ = _; unfold St.read; rw [if_neg (by rw [hd]; simp), hat]
      rw [HR.out]
      rw [hfs] at hat
      have hfd := find_none hp nm hnm (at_none hat)
      clear hlv hfs hwf hat
      go_enter Try.func16, Try.ntmps16
      go_wp2_with fail
      refine hfd.mono ?_
      rintro e w1 ⟨rfl, hb1⟩
      unfold Raw.zero Raw.val Raw.sl
      go_wp2_with fail
      go_ret2
      exact ⟨_, rfl, Own.nil _ _ _, hb1.alloc hb1.size _⟩
    | some c =>
      have HR : Hid (s.read nm.data.toList = (c.1, 0)) := by show _ = _; unfold St.read; rw [if_neg (by rw [hd]; simp), hat]
      rw [HR.out]
      have hcl := used_ge hwf hat
      have hroom := hwf.room
      have hmost := hwf.most
      rw [hfs] at hat
      obtain ⟨r, har, rfl⟩ := at_some hat
      have hrow := hp.files.rows _ (aget_mem har)
      have hfd := find_some hp nm hnm har
      have hI := hrow.isB
      have hsl : r.val = .agg #[.slice (r.g.map fun b => ⟨b, 0, none⟩) r.c.1.length r.cap, .int .i64 (r.c.2 : Int)] := rfl
      rw [hsl] at hfd
      obtain ⟨A, hA⟩ : ∃ A : Option Addr, (r.g.map fun b => (⟨b, 0, none⟩ : Addr)) = A := ⟨_, rfl⟩
      rw [hA] at hfd hI
      obtain ⟨L, hL⟩ : ∃ L, r.c.1 = L := ⟨_, rfl⟩
      rw [hL] at hI hfd hcl ⊢
      obtain ⟨m, hm⟩ : ∃ m, L.length = m := ⟨_, rfl⟩
      rw [hm] at hfd hI hcl
      have hm' : m ≤ 70368744177664 := by omega
      clear hlv hfs hwf hat har hsl hA hL hm hrow hcl hroom hmost
      go_enter Try.func16, Try.ntmps16
      go_wp2_with fail
      refine hfd.mono ?_
      rintro e w1 ⟨rfl, hb1⟩
      have hh := rowA ((hI.below hb1).alloc (.cells #[.slice A m r.cap, .int .i64 (r.c.2 : Int)] 97)) hm' 0 0
      clear hfd
      go_wp2_with (at_builtin; refine wpList_run _ rfl (.const (.slice none 0 0)) (.tmp 18) 26 rfl hh ?_; rintro v' w' ⟨g, cap, rfl, hrow, hgn, hb'⟩; clear hh)
      go_ret2
      have hbb := hb1.alloc hb1.size (.cells #[.slice A m r.cap, .int .i64 (r.c.2 : Int)] 97)
      have hsz : w.heap.size ≤ (w1.alloc (.cells #[.slice A m r.cap, .int .i64 (r.c.2 : Int)] 97)).heap.size := hbb.size
      have hlen : (⟨g, cap, (L, 0)⟩ : Raw).sl = .slice (g.map fun b => ⟨b, 0, none⟩) m cap := by
        unfold Raw.sl
        rw [hI.len]
      have hown := own_of_row hrow (base := w.heap.size) fun b hb => Nat.le_trans hsz (hgn b hb)
      rw [hlen] at hown
      exact ⟨_, rfl, hown, bst hbb hb'⟩

set_option maxRecDepth 100000 in
set_option maxHeartbeats 1000000 in
theorem arm_any (h : Dk w F a s) (n : Int) (hn0 : -9223372036854775808 ≤ n) (hn : n ≤ 9223372036854775807) : Calls Try.prog 25 #[.pointer (some ⟨a, 0, none⟩), .int .i64 n] w fun e w' =>
    e = .returned (.tuple #[]) ∧ Turned w F a w' (s.arm' n) := by
  have hD := h
  have hwf := h.1
  obtain ⟨_, hFl, mb, ms, lv, hp, hlv, hfs, hfoot⟩ := h
  have hc5 : w.cell? ⟨a, 5, none⟩ = some (.bool s.down) := hp.cell 5
  have hc4 : w.cell? ⟨a, 4, none⟩ = some (.int .i64 lv) := hp.cell 4
  have hc3 : w.cell? ⟨a, 3, none⟩ = some (.bool s.left.isSome) := hp.cell 3
  have f3 := hp.free 3
  have f4 := hp.free 4
  by_cases hd : s.down = true
  · have HR : Hid (s.arm' n = s) := by show _ = _; unfold St.arm'; rw [if_pos hd]
    rw [HR.out]
    rw [hd] at hc5
    clear hlv hfs hwf hd
    go_enter Try.func25, Try.ntmps25
    go_wp2_with fail
    refine (made_any hp).mono ?_
    rintro e w' ⟨rfl, rfl⟩
    go_wp2_with fail
    refine bodyPost_ret (results_none rfl _ _ _) rfl ?_
    exact ⟨rfl, same_turned hD (Below.refl _ _)⟩
  · have hd : s.down = false := by simpa using hd
    have hwf2 := St.arm_wf hwf (n := n) (by omega)
    have HR : Hid (s.arm' n = { s with left := some n.toNat }) := by show _ = _; unfold St.arm'; rw [if_neg (by rw [hd]; simp)]
    have hwf3 : ({ s with left := some n.toNat } : St).wf := by have := hwf2; rw [HR.out] at this; exact this
    have hfin : ∀ m : Int, m = (n.toNat : Int) → Turned w F a ((w.setCell ⟨a, 3, none⟩ (.bool true)).setCell ⟨a, 4, none⟩ (.int .i64 m)) (s.arm' n) := by
      rintro m rfl
      rw [HR.out]
      have hA : Away (fun b => b = a) w ((w.setCell ⟨a, 3, none⟩ (.bool true)).setCell ⟨a, 4, none⟩ (.int .i64 (n.toNat : Int))) := (Away.setCell w ⟨a, 3, none⟩ _).trans (Away.setCell _ ⟨a, 4, none⟩ _) fun b e => .inl e
      have hne := hp.ne_map
      refine Turned.mk' hwf3 (hA.mono fun b _ e => hfoot b (.inl e)) (lv := (n.toNat : Int)) (mb := mb) (ms := ms) ⟨?_, hp.files.away hA fun b hb e => ?_⟩ (fun k e => by cases e; rfl) hfs fun b hb => .inl (hfoot b hb)
      · rw [set_blk (set_blk hp.blk 3 _) 4]
        rfl
      · subst e
        rcases hb with e | ⟨p, hp', hg⟩
        · exact hne e.symm
        · exact (hp.ne_row (hp.files.rows p hp') hg).1 rfl
    have HF := Lib.hid hfin
    rw [hd] at hc5
    clear hlv hfs hwf hwf2 hwf3 HR hfin hd
    go_enter Try.func25, Try.ntmps25
    go_wp2_with fail
    refine (made_any hp).mono ?_
    rintro e w' ⟨rfl, rfl⟩
    go_wp2_with fail
    all_goals go_end0
    all_goals refine ⟨rfl, HF.out _ ?_⟩
    all_goals first | omega | (split <;> omega)
end
end Go.Proofs.Ytdcflgblaljdeaa
