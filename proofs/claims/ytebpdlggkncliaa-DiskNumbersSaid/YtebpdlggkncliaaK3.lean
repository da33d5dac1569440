/-
  New, Read, Size, Synced, Used, Down, Arm as the document has them.
-/
import Derived.Test.YtebpdlggkncliaaKDkAppend
import Derived.Carry
import Derived.Test.YtebpdlggkncliaaIter
import Derived.OwnWalkIn
import Derived.TacticsInMore
set_option linter.unusedVariables false
set_option linter.unusedSimpArgs false
namespace Go.Proofs.Ytebpdlggkncliaa
open Go.RowKit Go.Maps

theorem own_of_row {w : World} {r : Raw} (h : FRow w r) {base : Nat} (hb : ∀ b, r.g = some b → base ≤ b) : Own w base 5 r.sl r.c.1 := by
  refine ⟨h.1, ?_⟩
  rcases h.2 with hn | ⟨g, cap, cur, hv, hbg, hg, hr⟩
  · exact .inl hn
  · refine .inr ⟨g, cap, cur, hv, hb g ?_, hg, hr⟩
    have := Raw.own r
    rw [hv] at this
    exact this.symm

set_option maxRecDepth 100000 in
set_option maxHeartbeats 1000000 in
theorem new_bad (n : Int) (w : World) (h : n < 0 ∨ 16777216 < n) : Calls Try.prog 8 #[.int .i64 n] w fun e w' => e = .returned (.tuple #[.pointer none, .int .i64 2]) ∧ w = w' := by
  rcases h with h | h
  · go_enter Try.func8, Try.ntmps8
    go_wp2_with fail
    all_goals (go_ret2; exact ⟨rfl, rfl⟩)
  · have h0 : 0 ≤ n := by omega
    go_enter Try.func8, Try.ntmps8
    go_wp2_with fail
    all_goals (go_ret2; exact ⟨rfl, rfl⟩)
set_option maxRecDepth 100000 in
set_option maxHeartbeats 1000000 in
theorem new_any (n : Nat) (w : World) (h : n ≤ 16777216) : Calls Try.prog 8 #[.int .i64 (n : Int)] w fun e w' =>
    ∃ (a : Nat) (F : Nat → Prop), e = .returned (.tuple #[.pointer (some ⟨a, 0, none⟩), .int .i64 0]) ∧ Dk w' F a (St.new n) ∧ (∀ b, F b → w.heap.size ≤ b) ∧ Below w.heap.size w w' := by
  have hmm := @run_makeMap Try.prog
  have h1 : ¬ (16777216 : Int) < (n : Int) := by omega
  have hB := ((Below.refl w.heap.size w).alloc (Nat.le_refl _) (.map #[] 0)).alloc (by simp) (.cells (cellsD n 0 w.heap.size false 0 false) 90)
  have hfin : Dk ((w.alloc (.map #[] 0)).alloc (.cells (cellsD n 0 w.heap.size false 0 false) 90)) (fun b => w.heap.size ≤ b ∧ b < w.heap.size + 2) (w.heap.size + 1) (St.new n) := by
    have hsz : ((w.alloc (.map #[] 0)).alloc (.cells (cellsD n 0 w.heap.size false 0 false) 90)).heap.size = w.heap.size + 2 := by simp
    refine ⟨St.new_wf h, fun b hb => by rw [hsz]; exact hb.2, w.heap.size, [], 0, ⟨?_, ?_, List.Pairwise.nil, (fun _ hp => by cases hp), List.Pairwise.nil⟩, (fun _ e => by cases e), rfl, ?_⟩
    · have := heap_alloc_new (w.alloc (.map #[] 0)) (.cells (cellsD n 0 w.heap.size false 0 false) 90)
      rwa [show (w.alloc (.map #[] 0)).heap.size = w.heap.size + 1 by simp] at this
    · exact (World.ownsMap_made w Try.prog 9 asIs).alloc _
    · rintro b (rfl | rfl | ⟨p, hp, _⟩)
      · exact ⟨by omega, by omega⟩
      · exact ⟨by omega, by omega⟩
      · cases hp
  have HF := Lib.hid hfin
  clear hfin
  go_enter Try.func8, Try.ntmps8
  go_wp2_with fail
  go_ret2
  exact ⟨_, rfl, _, HF.out, fun b hb => hb.1, hB⟩

section
variable {w : World} {F : Nat → Prop} {a : Nat} {s : St}
set_option maxRecDepth 100000 in
set_option maxHeartbeats 1000000 in
theorem size_any (h : Dk w F a s) (nm : ByteArray) (hnm : nm.size ≤ maxLen) : Calls Try.prog 37 #[.pointer (some ⟨a, 0, none⟩), .string nm] w fun e w' =>
    e = .returned (.int .i64 ((((aget nm.data.toList s.fs).getD ([], 0)).1.length : Nat) : Int)) ∧ w = w' := by
  obtain ⟨_, hFl, mb, ms, lv, hp, hlv, hfs, hfoot⟩ := h
  rw [hfs, atR_c]
  have hlk := look_run hp.files.own hnm
  unfold Raw.val Raw.sl at hlk
  have hc2 : w.cell? ⟨a, 2, none⟩ = some (.map (some mb)) := hp.cell 2
  have hfd := fun (w : World) (A : Option Addr) (n c : Nat) (y : Value) => field0 w A n c y
  generalize (atR ms nm.data.toList).c.1.length = n at hlk ⊢
  clear hlv hfs
  go_enter Try.func37, Try.ntmps37
  go_wp2_with fail
  refine (made_any hp).mono ?_
  rintro e w' ⟨rfl, rfl⟩
  go_wp2_with fail
  go_ret
  exact ⟨rfl, rfl⟩
set_option maxRecDepth 100000 in
set_option maxHeartbeats 1000000 in
theorem synced_any (h : Dk w F a s) (nm : ByteArray) (hnm : nm.size ≤ maxLen) : Calls Try.prog 13 #[.pointer (some ⟨a, 0, none⟩), .string nm] w fun e w' =>
    e = .returned (.int .i64 ((((aget nm.data.toList s.fs).getD ([], 0)).2 : Nat) : Int)) ∧ w = w' := by
  obtain ⟨_, hFl, mb, ms, lv, hp, hlv, hfs, hfoot⟩ := h
  rw [hfs, atR_c]
  have hlk := look_run hp.files.own hnm
  unfold Raw.val Raw.sl at hlk
  have hc2 : w.cell? ⟨a, 2, none⟩ = some (.map (some mb)) := hp.cell 2
  have hfd := fun (w : World) (x : Value) (n : Int) => field1 w x n
  generalize (atR ms nm.data.toList).c.2 = n at hlk ⊢
  clear hlv hfs
  go_enter Try.func13, Try.ntmps13
  go_wp2_with fail
  refine (made_any hp).mono ?_
  rintro e w' ⟨rfl, rfl⟩
  go_wp2_with fail
  go_ret
  exact ⟨rfl, rfl⟩
set_option maxRecDepth 100000 in
set_option maxHeartbeats 1000000 in
theorem used_any (h : Dk w F a s) : Calls Try.prog 17 #[.pointer (some ⟨a, 0, none⟩)] w fun e w' => e = .returned (.int .i64 (s.used : Int)) ∧ w = w' := by
  obtain ⟨_, hFl, mb, ms, lv, hp, hlv, hfs, hfoot⟩ := h
  rw [used_of hfs]
  have hc1 : w.cell? ⟨a, 1, none⟩ = some (.int .i64 (usedR ms : Int)) := hp.cell 1
  clear hlv hfs
  go_enter Try.func17, Try.ntmps17
  go_wp2_with fail
  refine (made_any hp).mono ?_
  rintro e w' ⟨rfl, rfl⟩
  go_wp2_with fail
  go_ret
  exact ⟨rfl, rfl⟩
set_option maxRecDepth 100000 in
set_option maxHeartbeats 1000000 in
theorem down_any (h : Dk w F a s) : Calls Try.prog 22 #[.pointer (some ⟨a, 0, none⟩)] w fun e w' => e = .returned (.bool s.down) ∧ w = w' := by
  obtain ⟨_, hFl, mb, ms, lv, hp, hlv, hfs, hfoot⟩ := h
  have hc5 : w.cell? ⟨a, 5, none⟩ = some (.bool s.down) := hp.cell 5
  clear hlv hfs
  go_enter Try.func22, Try.ntmps22
  go_wp2_with fail
  refine (made_any hp).mono ?_
  rintro e w' ⟨rfl, rfl⟩
  go_wp2_with fail
  go_ret
  exact ⟨rfl, rfl⟩

def St.read (s : St) (nm : Nm) : List UInt8 × Nat := if s.down then ([], 15) else match aget nm s.fs with | none => ([], 13) | some c => (c.1, 0)
set_option maxRecDepth 100000 in
set_option maxHeartbeats 1000000 in
theorem read_any (h : Dk w F a s) (nm : ByteArray) (hnm : nm.size ≤ maxLen) : Calls Try.prog 10 #[.pointer (some ⟨a, 0, none⟩), .string nm] w fun e w' =>
    ∃ v, e = .returned (.tuple #[v, .int .i64 ((s.read nm.data.toList).2 : Int)]) ∧ Own w' w.heap.size 5 v (s.read nm.data.toList).1 ∧ Below w.heap.size w w' := by
  have hwf := h.1
  obtain ⟨_, hFl, mb, ms, lv, hp, hlv, hfs, hfoot⟩ := h
  by_cases hd : s.down = true
  · have HR : Hid (s.read nm.data.toList = ([], 15)) := by show _ = _; unfold St.read; rw [if_pos hd]
    rw [hd] at hp
    rw [HR.out]
    clear hlv hfs hwf
    go_enter Try.func10, Try.ntmps10
    go_wp2_with fail
    refine (find_down hp nm).mono ?_
    rintro e w1 ⟨rfl, hb1⟩
    unfold Raw.zero Raw.val Raw.sl
    go_wp2_with fail
    go_ret2
    exact ⟨_, rfl, Own.nil _ _ _, hb1.alloc hb1.size _⟩
  · have hd : s.down = false := by simpa using hd
    rw [hd] at hp
    cases hat : aget nm.data.toList s.fs with
    | none =>
      have HR : Hid (s.read nm.data.toList = ([], 13)) := by show _ = _; unfold St.read; rw [if_neg (by rw [hd]; simp), hat]
      rw [HR.out]
      rw [hfs] at hat
      have hfd := find_none hp nm hnm (at_none hat)
      clear hlv hfs hwf hat
      go_enter Try.func10, Try.ntmps10
      go_wp2_with fail
      refine hfd.mono ?_
      rintro e w1 ⟨rfl, hb1⟩
      unfold Raw.zero Raw.val Raw.sl
      go_wp2_with fail
      go_ret2
      exact ⟨_, rfl, Own.nil _ _ _, hb1.alloc hb1.size _⟩
    | some c =>
      have HR : Hid (s.read nm.data.toList = (c.1, 0)) := by show _ = _; unfold St.read; rw [if_neg (by rw [hd]; simp), hat]
      rw [HR.out]
      have hcl := used_ge hwf hat
      have hroom := hwf.room
      have hmost := hwf.most
      rw [hfs] at hat
      obtain ⟨r, har, rfl⟩ := at_some hat
      have hrow := hp.files.rows _ (aget_mem har)
      have hfd := find_some hp nm hnm har
      have hI := hrow.isB
      have hsl : r.val = .agg #[.slice (r.g.map fun b => ⟨b, 0, none⟩) r.c.1.length r.cap, .int .i64 (r.c.2 : Int)] := rfl
      rw [hsl] at hfd
      obtain ⟨A, hA⟩ : ∃ A : Option Addr, (r.g.map fun b => (⟨b, 0, none⟩ : Addr)) = A := ⟨_, rfl⟩
      rw [hA] at hfd hI
      obtain ⟨L, hL⟩ : ∃ L, r.c.1 = L := ⟨_, rfl⟩
      rw [hL] at hI hfd hcl ⊢
      obtain ⟨m, hm⟩ : ∃ m, L.length = m := ⟨_, rfl⟩
      rw [hm] at hfd hI hcl
      have hm' : m ≤ 70368744177664 := by omega
      clear hlv hfs hwf hat har hsl hA hL hm hrow hcl hroom hmost
      go_enter Try.func10, Try.ntmps10
      go_wp2_with fail
      refine hfd.mono ?_
      rintro e w1 ⟨rfl, hb1⟩
      have hh := rowA ((hI.below hb1).alloc (.cells #[.slice A m r.cap, .int .i64 (r.c.2 : Int)] 94)) hm' 0 0
      clear hfd
      go_wp2_with (at_builtin; refine wpList_run _ rfl (.const (.slice none 0 0)) (.tmp 18) 26 rfl hh ?_; rintro v' w' ⟨g, cap, rfl, hrow, hgn, hb'⟩; clear hh)
      go_ret2
      have hbb := hb1.alloc hb1.size (.cells #[.slice A m r.cap, .int .i64 (r.c.2 : Int)] 94)
      have hsz : w.heap.size ≤ (w1.alloc (.cells #[.slice A m r.cap, .int .i64 (r.c.2 : Int)] 94)).heap.size := hbb.size
      have hlen : (⟨g, cap, (L, 0)⟩ : Raw).sl = .slice (g.map fun b => ⟨b, 0, none⟩) m cap := by
        unfold Raw.sl
        rw [hI.len]
      have hown := own_of_row hrow (base := w.heap.size) fun b hb => Nat.le_trans hsz (hgn b hb)
      rw [hlen] at hown
      exact ⟨_, rfl, hown, bst hbb hb'⟩

set_option maxRecDepth 100000 in
set_option maxHeartbeats 1000000 in
theorem arm_any (h : Dk w F a s) (n : Int) (hn0 : -9223372036854775808 ≤ n) (hn : n ≤ 9223372036854775807) : Calls Try.prog 19 #[.pointer (some ⟨a, 0, none⟩), .int .i64 n] w fun e w' =>
    e = .returned (.tuple #[]) ∧ Turned w F a w' (s.arm' n) := by
  have hD := h
  have hwf := h.1
  obtain ⟨_, hFl, mb, ms, lv, hp, hlv, hfs, hfoot⟩ := h
  have hc5 : w.cell? ⟨a, 5, none⟩ = some (.bool s.down) := hp.cell 5
  have hc4 : w.cell? ⟨a, 4, none⟩ = some (.int .i64 lv) := hp.cell 4
  have hc3 : w.cell? ⟨a, 3, none⟩ = some (.bool s.left.isSome) := hp.cell 3
  have f3 := hp.free 3
  have f4 := hp.free 4
  by_cases hd : s.down = true
  · have HR : Hid (s.arm' n = s) := by show _ = _; unfold St.arm'; rw [if_pos hd]
    rw [HR.out]
    rw [hd] at hc5
    clear hlv hfs hwf hd
    go_enter Try.func19, Try.ntmps19
    go_wp2_with fail
    refine (made_any hp).mono ?_
    rintro e w' ⟨rfl, rfl⟩
    go_wp2_with fail
    refine bodyPost_ret (results_none rfl _ _ _) rfl ?_
    exact ⟨rfl, same_turned hD (Below.refl _ _)⟩
  · have hd : s.down = false := by simpa using hd
    have hwf2 := St.arm_wf hwf (n := n) (by omega)
    have HR : Hid (s.arm' n = { s with left := some n.toNat }) := by show _ = _; unfold St.arm'; rw [if_neg (by rw [hd]; simp)]
    have hwf3 : ({ s with left := some n.toNat } : St).wf := by have := hwf2; rw [HR.out] at this; exact this
    have hfin : ∀ m : Int, m = (n.toNat : Int) → Turned w F a ((w.setCell ⟨a, 3, none⟩ (.bool true)).setCell ⟨a, 4, none⟩ (.int .i64 m)) (s.arm' n) := by
      rintro m rfl
      rw [HR.out]
      have hA : Away (fun b => b = a) w ((w.setCell ⟨a, 3, none⟩ (.bool true)).setCell ⟨a, 4, none⟩ (.int .i64 (n.toNat : Int))) := (Away.setCell w ⟨a, 3, none⟩ _).trans (Away.setCell _ ⟨a, 4, none⟩ _) fun b e => .inl e
      have hne := hp.ne_map
      refine Turned.mk' hwf3 (hA.mono fun b _ e => hfoot b (.inl e)) (lv := (n.toNat : Int)) (mb := mb) (ms := ms) ⟨?_, hp.files.away hA fun b hb e => ?_⟩ (fun k e => by cases e; rfl) hfs fun b hb => .inl (hfoot b hb)
      · rw [set_blk (set_blk hp.blk 3 _) 4]
        rfl
      · subst e
        rcases hb with e | ⟨p, hp', hg⟩
        · exact hne e.symm
        · exact (hp.ne_row (hp.files.rows p hp') hg).1 rfl
    have HF := Lib.hid hfin
    rw [hd] at hc5
    clear hlv hfs hwf hwf2 hwf3 HR hfin hd
    go_enter Try.func19, Try.ntmps19
    go_wp2_with fail
    refine (made_any hp).mono ?_
    rintro e w' ⟨rfl, rfl⟩
    go_wp2_with fail
    all_goals go_end0
    all_goals refine ⟨rfl, HF.out _ ?_⟩
    all_goals first | omega | (split <;> omega)
end
end Go.Proofs.Ytebpdlggkncliaa

/-
  List as the document has it: the names, rising.
-/
set_option linter.unusedVariables false
set_option linter.unusedSimpArgs false
namespace Go.Proofs.Ytebpdlggkncliaa
open Go.RowKit Go.Maps Go.Sort

theorem before_lt : ∀ a b : List UInt8, bytesBefore a b = true ↔ a < b
  | [], [] => by simp [bytesBefore]
  | [], _ :: _ => by simp [bytesBefore]
  | _ :: _, [] => by simp [bytesBefore]
  | x :: r, y :: t => by
    rw [List.cons_lt_cons_iff, ← before_lt r t]
    simp [bytesBefore]
theorem sorted_names {l : List (List UInt8)} {ss : List (List UInt8)} (h : l.Pairwise fun a b => bytesBefore a b = true) (hp : ss.Perm l) : ss.mergeSort (fun x y => decide (x ≤ y)) = l := by
  have htr : ∀ a b c : List UInt8, decide (a ≤ b) = true → decide (b ≤ c) = true → decide (a ≤ c) = true := fun a b c h1 h2 => by
    simp only [decide_eq_true_eq] at *
    exact List.le_trans h1 h2
  have hto : ∀ a b : List UInt8, (decide (a ≤ b) || decide (b ≤ a)) = true := fun a b => by
    simp only [Bool.or_eq_true, decide_eq_true_eq]
    exact List.le_total a b
  have h1 := List.pairwise_mergeSort htr hto ss
  have h2 : l.Pairwise fun a b => decide (a ≤ b) = true := h.imp fun {a b} hb => by
    simp only [decide_eq_true_eq]
    exact List.le_of_lt ((before_lt a b).1 hb)
  refine List.Perm.eq_of_pairwise (le := fun a b => decide (a ≤ b) = true) ?_ h1 h2 ((List.mergeSort_perm ss _).trans hp)
  intro a b _ _ h3 h4
  simp only [decide_eq_true_eq] at h3 h4
  exact List.le_antisymm h3 h4

/-- a slice of strings of the call's own -/
def Names (w : World) (base : Nat) (v : Value) (l : List Nm) : Prop := w.ownsRow base 9 1 v l.length (l.map Go.Proofs.encStr)

set_option maxRecDepth 100000 in
set_option maxHeartbeats 1000000 in
theorem list_any {w : World} {F : Nat → Prop} {a : Nat} {s : St} (h : Dk w F a s) : Calls Try.prog 21 #[.pointer (some ⟨a, 0, none⟩)] w fun e w' =>
    ∃ v, e = .returned v ∧ Names w' w.heap.size v (s.fs.map (·.1)) ∧ Below w.heap.size w w' := by
  have hwf := h.1
  obtain ⟨_, hFl, mb, ms, lv, hp, hlv, hfs, hfoot⟩ := h
  have c2 : w.cell? ⟨a, 2, none⟩ = some (.map (some mb)) := hp.cell 2
  have hcount := hwf.count
  have hsz : Maps.size (dmap (amap Raw.val ms)) ≤ 200 := by rw [dmap_size]; rw [hfs] at hcount; simpa [amap] using hcount
  have hkeys : Go.strKeys (dmap (amap Raw.val ms)) = s.fs.map (·.1) := by rw [dmap_keys, amap_keys, hfs, amap_keys]
  have hrise : (s.fs.map (·.1)).Pairwise fun a b => bytesBefore a b = true := by
    have := hwf.rise
    unfold Rising at this
    rwa [List.pairwise_map]
  have HK := Lib.hid hkeys
  have hmade := (callsIn_wide (n := 5)).2 (made_any hp)
  clear hkeys hlv hfs hwf hcount
  refine (callsIn_wide (n := 6)).1 ?_
  have hfM : Fence.wide.fn 69 := trivial
  have hfK : Fence.wide.fn 81 := trivial
  have hfS : Fence.wide.fn 80 := trivial
  refine callsIn_of_wp Try.func21 rfl trivial ?_ rfl
  simp only [Try.ntmps21, List.size_toArray, List.length_cons, List.length_nil, Nat.reduceAdd, Nat.reduceSub, Array.replicate_succ, Array.replicate_zero, List.push_toArray, List.append_toArray, List.nil_append, List.cons_append]
  gi_wp2_with (first
    | (gi_at_call 69; refine hmade.mono ?_; rintro e w' ⟨rfl, rfl⟩)
    | (gi_at_call 81; refine (maps_Keys _ _).mono ?_; rintro e w' ⟨rfl, rfl⟩)
    | (gi_at_call 80; refine (slices_Sorted_keys mb _ _ asIs w hp.files.own (by unfold maxLen; omega) (by omega)).mono ?_; rintro e w' ⟨v, ss, rfl, hS, hrow, hnil, hb⟩))
  go_ret
  rw [HK.out] at hS
  have hss := sorted_names hrise hS
  rw [hss] at hrow
  have hlen := hS.length_eq
  rw [hlen] at hrow
  exact ⟨v, rfl, ownsRow_base_a hrow (by simp), ((Below.refl _ w).alloc (Nat.le_refl _) _).trans (hb.mono (by simp))⟩
end Go.Proofs.Ytebpdlggkncliaa

/-
  Crash as the document has it.
-/
set_option linter.unusedVariables false
set_option linter.unusedSimpArgs false
namespace Go.Proofs.Ytebpdlggkncliaa
open Go.RowKit Go.Maps

/-- a slice of ints holds these numbers -/
structure IsI (w : World) (A : Option Addr) (n c : Nat) (zs : List Int) : Prop where
  len : zs.length = n
  cap : n ≤ c
  rng : ∀ z ∈ zs, -9223372036854775808 ≤ z ∧ z ≤ 9223372036854775807
  src : zs = [] ∨ ∃ b o, A = some ⟨b, o, none⟩ ∧ ∀ j z, zs[j]? = some z → w.cell? ⟨b, o + j, none⟩ = some (.int .i64 z)
theorem IsI.away {F : Nat → Prop} {w w' : World} {A : Option Addr} {n c : Nat} {zs : List Int} (h : IsI w A n c zs) (ha : Away F w w') (hf : ∀ ad, A = some ad → ¬ F ad.block) : IsI w' A n c zs := by
  refine ⟨h.len, h.cap, h.rng, ?_⟩
  rcases h.src with h0 | ⟨b, o, hA, hc⟩
  · exact .inl h0
  · exact .inr ⟨b, o, hA, fun j z hj => away_cell ha (show ¬ F b from hf ⟨b, o, none⟩ hA) (hc j z hj)⟩

theorem aput_set {α : Type} {l : List (Nm × α)} (hl : Rising l) {i : Nat} {k : Nm} {x : α} (hi : l[i]? = some (k, x)) (c : α) : aput k c l = l.set i (k, c) := by
  have hil := (List.getElem?_eq_some_iff.1 hi).1
  have hei := (List.getElem?_eq_some_iff.1 hi).2
  have hk : (l.set i (k, c)).map (·.1) = l.map (·.1) := by
    apply List.ext_getElem
    · simp
    · intro j h1 h2
      simp only [List.getElem_map, List.getElem_set]
      split
      · rename_i e
        subst e
        rw [hei]
      · rfl
  have hr : Rising (l.set i (k, c)) := (rising_keys hk).2 hl
  have hne := rising_ne hl
  refine aget_ext (rising_aput hl k c) hr fun k' => opt_ext fun b => ?_
  rw [aget_some (rising_aput hl k c), aget_some hr, mem_aput]
  constructor
  · rintro (e | ⟨hm, hn⟩)
    · rw [e]
      exact List.mem_iff_getElem.2 ⟨i, by simpa using hil, by simp⟩
    · obtain ⟨j, hj, ej⟩ := List.mem_iff_getElem.1 hm
      have hij : i ≠ j := by
        rintro rfl
        rw [hei] at ej
        exact hn (congrArg Prod.fst ej).symm
      exact List.mem_iff_getElem.2 ⟨j, by simpa using hj, by rw [List.getElem_set_ne hij]; exact ej⟩
  · intro hm
    obtain ⟨j, hj0, ej⟩ := List.mem_iff_getElem.1 hm
    have hj : j < l.length := by rwa [List.length_set] at hj0
    rw [List.getElem_set] at ej
    split at ej
    · exact .inl ej.symm
    · rename_i hij
      refine .inr ⟨by rw [← ej]; exact List.getElem_mem _, ?_⟩
      rintro rfl
      rcases Nat.lt_or_gt_of_ne hij with h1 | h1
      · have := List.pairwise_iff_getElem.1 hne i j hil hj h1
        rw [hei, ej] at this
        exact this rfl
      · have := List.pairwise_iff_getElem.1 hne j i hj hil h1
        rw [hei, ej] at this
        exact this rfl

/-- the files, the first i of them as the crash leaves them -/
def mixed (ks : List Int) (fs : List (Nm × Fc)) (i : Nat) : List (Nm × Fc) := fs.mapIdx fun j p => if j < i then (p.1, (p.2.1.take (kept p.2 ks j), kept p.2 ks j)) else p
theorem mixed_zero (ks : List Int) (fs : List (Nm × Fc)) : mixed ks fs 0 = fs := by
  unfold mixed
  apply List.ext_getElem
  · simp
  · intro j h1 h2; simp
theorem mixed_all (ks : List Int) (fs : List (Nm × Fc)) : mixed ks fs fs.length = crashed ks fs := by
  unfold mixed crashed
  apply List.ext_getElem
  · simp
  · intro j h1 h2
    simp at h1
    simp [h1]
theorem mixed_keys (ks : List Int) (fs : List (Nm × Fc)) (i : Nat) : (mixed ks fs i).map (·.1) = fs.map (·.1) := by
  unfold mixed
  apply List.ext_getElem
  · simp
  · intro j h1 h2
    simp only [List.getElem_map, List.getElem_mapIdx]
    split <;> rfl
theorem mixed_at {ks : List Int} {fs : List (Nm × Fc)} {i : Nat} {p : Nm × Fc} (h : fs[i]? = some p) : (mixed ks fs i)[i]? = some p := by
  unfold mixed
  rw [List.getElem?_mapIdx, h]
  simp
theorem mixed_succ {ks : List Int} {fs : List (Nm × Fc)} {i : Nat} {p : Nm × Fc} (h : fs[i]? = some p) :
    (mixed ks fs i).set i (p.1, (p.2.1.take (kept p.2 ks i), kept p.2 ks i)) = mixed ks fs (i + 1) := by
  obtain ⟨hi, e⟩ := List.getElem?_eq_some_iff.1 h
  unfold mixed
  apply List.ext_getElem
  · simp
  · intro j h1 h2
    simp at h1 h2
    rw [List.getElem_set, List.getElem_mapIdx, List.getElem_mapIdx]
    split
    · rename_i hij
      subst hij
      rw [if_pos (by omega), e]
    · rename_i hij
      by_cases hj : j < i
      · rw [if_pos hj, if_pos (by omega)]
      · rw [if_neg hj, if_neg (by omega)]
theorem mixed_used (ks : List Int) {s : St} (hs : s.wf) (i : Nat) : asum (fun c : Fc => c.1.length) (mixed ks s.fs i) ≤ s.used := by
  refine asum_mono (by simp [mixed]) fun j x y hx hy => ?_
  unfold mixed at hx
  rw [List.getElem?_mapIdx, hy] at hx
  simp only [Option.map_some, Option.some.injEq] at hx
  subst hx
  split
  · simp; omega
  · exact Nat.le_refl _

/-- the strings of a row -/
theorem Names.at_ {w : World} {base : Nat} {v : Value} {l : List Nm} (h : Names w base v l) : ∃ A c, v = .slice A l.length c ∧ (l = [] ∨ ∃ g, A = some ⟨g, 0, none⟩ ∧ base ≤ g ∧ g < w.heap.size ∧ ∀ j x, l[j]? = some x → w.cell? ⟨g, j, none⟩ = some (.string ⟨x.toArray⟩)) := by
  unfold Names at h
  rcases h.2 with ⟨rfl, hn⟩ | ⟨g, cap, cur, rfl, hbg, hg, hnc, hcm, hcs, htake⟩
  · have : l = [] := List.eq_nil_of_length_eq_zero hn
    subst this
    exact ⟨none, 0, rfl, .inl rfl⟩
  · refine ⟨some ⟨g, 0, none⟩, cap, rfl, .inr ⟨g, rfl, hbg, (Array.getElem?_eq_some_iff.1 hg).1, fun j x hj => ?_⟩⟩
    have hx := World.ownsRow.cells (g := g) h rfl j (Go.Proofs.encStr x) (by rw [List.getElem?_map, hj]; rfl)
    simpa [Addr.add_lit, Go.Proofs.encStr] using hx
theorem Names.away {F : Nat → Prop} {w w' : World} {base : Nat} {v : Value} {l : List Nm} (h : Names w base v l) (ha : Away F w w') (hf : ∀ b, base ≤ b → b < w.heap.size → ¬ F b) : Names w' base v l := by
  refine ⟨h.1, ?_⟩
  rcases h.2 with hn | ⟨g, cap, cur, hv, hbg, hg, hr⟩
  · exact .inl hn
  · have hlt := (Array.getElem?_eq_some_iff.1 hg).1
    exact .inr ⟨g, cap, cur, hv, hbg, (ha.block g hlt (hf g hbg hlt)).trans hg, hr⟩
end Go.Proofs.Ytebpdlggkncliaa
