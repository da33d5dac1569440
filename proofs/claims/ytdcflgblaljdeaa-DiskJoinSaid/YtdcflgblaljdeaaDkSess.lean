/-
  A disk that a law has made and goes on with: what each call answers, and what the disk is behind it.
-/
import Derived.Test.YtdcflgblaljdeaaDkCrashB
set_option linter.unusedVariables false
set_option linter.unusedSimpArgs false
namespace Go.Proofs.Ytdcflgblaljdeaa
open Go.RowKit Go.Maps

/-- a disk of the law's own (w0: the world when the law began) -/
def Sess (w0 w : World) (a : Nat) (s : St) : Prop := ∃ F, Dk w F a s ∧ (∀ b, F b → w0.heap.size ≤ b) ∧ Below w0.heap.size w0 w
theorem Sess.bel {w0 w : World} {a : Nat} {s : St} (h : Sess w0 w a s) : Below w0.heap.size w0 w := by obtain ⟨F, _, _, hb⟩ := h; exact hb
theorem Sess.wf {w0 w : World} {a : Nat} {s : St} (h : Sess w0 w a s) : s.wf := by obtain ⟨F, hd, _, _⟩ := h; exact hd.1
theorem Sess.below {w0 w w' : World} {a : Nat} {s : St} (h : Sess w0 w a s) (hb : Below w.heap.size w w') : Sess w0 w' a s := by
  obtain ⟨F, hd, hf, h0⟩ := h
  exact ⟨F, hd.below hb, hf, bst h0 hb⟩
theorem Sess.alloc {w0 w : World} {a : Nat} {s : St} (h : Sess w0 w a s) (o : Obj) : Sess w0 (w.alloc o) a s := h.below ((Below.refl _ _).alloc (Nat.le_refl _) o)
theorem Sess.drew {w0 w : World} {a : Nat} {s : St} (h : Sess w0 w a s) : Sess w0 w.drew a s := h.below (Below.refl _ _).drew
theorem Sess.drewN {w0 w : World} {a : Nat} {s : St} (h : Sess w0 w a s) (n : Nat) : Sess w0 (w.drewN n) a s := h.below (below_drewN' (Below.refl _ _) n)
theorem sess_turned {w0 w w' : World} {F : Nat → Prop} {a : Nat} {s : St} (hf : ∀ b, F b → w0.heap.size ≤ b) (h0 : Below w0.heap.size w0 w) (ht : Turned w F a w' s) : Sess w0 w' a s := by
  obtain ⟨F', hd, ha, hF⟩ := ht
  refine ⟨F', hd, fun b hb => ?_, ?_⟩
  · rcases hF b hb with e | e
    · exact hf b e
    · exact Nat.le_trans h0.size e
  · have := (Away.of_below h0).trans ha fun b e => .inl (hf b e)
    exact this.below (Nat.le_refl _) fun b e => e

section
variable {w0 w : World} {a : Nat} {s : St}
theorem s_new (n : Nat) (h : n ≤ 16777216) (h0 : Below w0.heap.size w0 w) : Calls Try.prog 14 #[.int .i64 (n : Int)] w fun e w' =>
    ∃ a, e = .returned (.tuple #[.pointer (some ⟨a, 0, none⟩), .int .i64 0]) ∧ Sess w0 w' a (St.new n) := by
  refine (new_any n w h).mono ?_
  rintro e w' ⟨a, F, rfl, hd, hf, hb⟩
  exact ⟨a, rfl, F, hd, fun b e => Nat.le_trans h0.size (hf b e), bst h0 hb⟩
theorem s_append (h : Sess w0 w a s) (nm : ByteArray) (hnm : nm.size ≤ maxLen) {B : Option Addr} {n c : Nat} {l : List UInt8} (hB : IsB w B n c l) (hn : n ≤ maxLen) {s' : St} {er : Nat} (he : s.append nm.data.toList l = (s', er)) :
    Calls Try.prog 15 #[.pointer (some ⟨a, 0, none⟩), .string nm, .slice B n c] w fun e w' => e = .returned (.int .i64 (er : Int)) ∧ Sess w0 w' a s' := by
  obtain ⟨F, hd, hf, h0⟩ := h
  refine (append_disk hd nm hnm hB hn).mono ?_
  rw [he]
  rintro e w' ⟨rfl, ht⟩
  exact ⟨rfl, sess_turned hf h0 ht⟩
theorem s_sync (h : Sess w0 w a s) (nm : ByteArray) (hnm : nm.size ≤ maxLen) {s' : St} {er : Nat} (he : s.sync nm.data.toList = (s', er)) :
    Calls Try.prog 20 #[.pointer (some ⟨a, 0, none⟩), .string nm] w fun e w' => e = .returned (.int .i64 (er : Int)) ∧ Sess w0 w' a s' := by
  obtain ⟨F, hd, hf, h0⟩ := h
  refine (sync_any hd nm hnm).mono ?_
  rw [he]
  rintro e w' ⟨rfl, ht⟩
  exact ⟨rfl, sess_turned hf h0 ht⟩
theorem s_remove (h : Sess w0 w a s) (nm : ByteArray) (hnm : nm.size ≤ maxLen) {s' : St} {er : Nat} (he : s.remove nm.data.toList = (s', er)) :
    Calls Try.prog 21 #[.pointer (some ⟨a, 0, none⟩), .string nm] w fun e w' => e = .returned (.int .i64 (er : Int)) ∧ Sess w0 w' a s' := by
  obtain ⟨F, hd, hf, h0⟩ := h
  refine (remove_any hd nm hnm).mono ?_
  rw [he]
  rintro e w' ⟨rfl, ht⟩
  exact ⟨rfl, sess_turned hf h0 ht⟩
theorem s_rename (h : Sess w0 w a s) (nm : ByteArray) (hnm : nm.size ≤ maxLen) (tm : ByteArray) (htm : tm.size ≤ maxLen) {s' : St} {er : Nat} (he : s.rename nm.data.toList tm.data.toList = (s', er)) :
    Calls Try.prog 22 #[.pointer (some ⟨a, 0, none⟩), .string nm, .string tm] w fun e w' => e = .returned (.int .i64 (er : Int)) ∧ Sess w0 w' a s' := by
  obtain ⟨F, hd, hf, h0⟩ := h
  refine (rename_any hd nm hnm tm htm).mono ?_
  rw [he]
  rintro e w' ⟨rfl, ht⟩
  exact ⟨rfl, sess_turned hf h0 ht⟩
theorem s_cut (h : Sess w0 w a s) (nm : ByteArray) (hnm : nm.size ≤ maxLen) (n : Int) (hn0 : -9223372036854775808 ≤ n) (hn1 : n ≤ 9223372036854775807) {s' : St} {er : Nat} (he : s.cut nm.data.toList n = (s', er)) :
    Calls Try.prog 18 #[.pointer (some ⟨a, 0, none⟩), .string nm, .int .i64 n] w fun e w' => e = .returned (.int .i64 (er : Int)) ∧ Sess w0 w' a s' := by
  obtain ⟨F, hd, hf, h0⟩ := h
  refine (cut_any hd nm hnm n hn0 hn1).mono ?_
  rw [he]
  rintro e w' ⟨rfl, ht⟩
  exact ⟨rfl, sess_turned hf h0 ht⟩
theorem s_arm (h : Sess w0 w a s) (n : Int) (hn0 : -9223372036854775808 ≤ n) (hn1 : n ≤ 9223372036854775807) :
    Calls Try.prog 25 #[.pointer (some ⟨a, 0, none⟩), .int .i64 n] w fun e w' => e = .returned (.tuple #[]) ∧ Sess w0 w' a (s.arm' n) := by
  obtain ⟨F, hd, hf, h0⟩ := h
  refine (arm_any hd n hn0 hn1).mono ?_
  rintro e w' ⟨rfl, ht⟩
  exact ⟨rfl, sess_turned hf h0 ht⟩
theorem s_size (h : Sess w0 w a s) (nm : ByteArray) (hnm : nm.size ≤ maxLen) {n : Nat} (he : ((aget nm.data.toList s.fs).getD ([], 0)).1.length = n) :
    Calls Try.prog 43 #[.pointer (some ⟨a, 0, none⟩), .string nm] w fun e w' => e = .returned (.int .i64 (n : Int)) ∧ w = w' := by
  obtain ⟨F, hd, hf, h0⟩ := h
  rw [← he]
  exact size_any hd nm hnm
theorem s_synced (h : Sess w0 w a s) (nm : ByteArray) (hnm : nm.size ≤ maxLen) {n : Nat} (he : ((aget nm.data.toList s.fs).getD ([], 0)).2 = n) :
    Calls Try.prog 19 #[.pointer (some ⟨a, 0, none⟩), .string nm] w fun e w' => e = .returned (.int .i64 (n : Int)) ∧ w = w' := by
  obtain ⟨F, hd, hf, h0⟩ := h
  rw [← he]
  exact synced_any hd nm hnm
theorem s_used (h : Sess w0 w a s) {n : Nat} (he : s.used = n) : Calls Try.prog 23 #[.pointer (some ⟨a, 0, none⟩)] w fun e w' => e = .returned (.int .i64 (n : Int)) ∧ w = w' := by
  obtain ⟨F, hd, hf, h0⟩ := h
  rw [← he]
  exact used_any hd
theorem s_down (h : Sess w0 w a s) {b : Bool} (he : s.down = b) : Calls Try.prog 28 #[.pointer (some ⟨a, 0, none⟩)] w fun e w' => e = .returned (.bool b) ∧ w = w' := by
  obtain ⟨F, hd, hf, h0⟩ := h
  rw [← he]
  exact down_any hd
theorem s_read (h : Sess w0 w a s) (nm : ByteArray) (hnm : nm.size ≤ maxLen) {l : List UInt8} {er : Nat} (he : s.read nm.data.toList = (l, er)) :
    Calls Try.prog 16 #[.pointer (some ⟨a, 0, none⟩), .string nm] w fun e w' =>
      ∃ A n c, e = .returned (.tuple #[.slice A n c, .int .i64 (er : Int)]) ∧ IsB w' A n c l ∧ (∀ ad, A = some ad → w.heap.size ≤ ad.block) ∧ Sess w0 w' a s := by
  have hS := h
  obtain ⟨F, hd, hf, h0⟩ := h
  refine (read_any hd nm hnm).mono ?_
  rw [he]
  rintro e w' ⟨v, rfl, ho, hb⟩
  obtain ⟨A, c, rfl, hI, _⟩ := own_is ho
  refine ⟨A, _, c, rfl, hI, fun ad hA => ?_, hS.below hb⟩
  subst hA
  exact (World.ownsRow.lt ho ad.block rfl).1
theorem s_list (h : Sess w0 w a s) : Calls Try.prog 27 #[.pointer (some ⟨a, 0, none⟩)] w fun e w' =>
    ∃ A c, e = .returned (.slice A s.fs.length c) ∧ Names w' w.heap.size (.slice A s.fs.length c) (s.fs.map (·.1)) ∧ Sess w0 w' a s := by
  have hS := h
  obtain ⟨F, hd, hf, h0⟩ := h
  refine (list_any hd).mono ?_
  rintro e w' ⟨v, rfl, hn, hb⟩
  obtain ⟨A, c, rfl, _⟩ := hn.at_
  rw [List.length_map] at hn ⊢
  exact ⟨A, c, rfl, hn, hS.below hb⟩
/-- a crash whose numbers lie in what the law has just made -/
theorem s_crash (h : Sess w0 w a s) {w' : World} (hb : Below w.heap.size w w') {A : Option Addr} {n c : Nat} {ks : List Int} (hI : IsI w' A n c ks) (hn : n ≤ maxLen) (hA : ∀ ad, A = some ad → ks ≠ [] → w.heap.size ≤ ad.block ∨ ad.block < w0.heap.size) :
    Calls Try.prog 29 #[.pointer (some ⟨a, 0, none⟩), .slice A n c] w' fun e w2 => e = .returned (.tuple #[]) ∧ Sess w0 w2 a (s.crash ks) := by
  obtain ⟨F, hd, hf, h0⟩ := h
  refine (crash_any (hd.below hb) hI hn fun ad e hk hF => ?_).mono ?_
  · have h1 := hd.2.1 _ hF
    have h2 := hf _ hF
    rcases hA ad e hk with h3 | h3 <;> omega
  · rintro e w2 ⟨rfl, ht⟩
    exact ⟨rfl, sess_turned hf (bst h0 hb) ht⟩
end

theorem ints_new (w : World) (zs : List Int) (t : TypeId) (hr : ∀ z ∈ zs, -9223372036854775808 ≤ z ∧ z ≤ 9223372036854775807) : IsI (w.alloc (.cells (zs.map (Value.int .i64)).toArray t)) (some ⟨w.heap.size, 0, none⟩) zs.length zs.length zs := by
  refine ⟨rfl, Nat.le_refl _, hr, .inr ⟨_, _, rfl, fun j z hj => ?_⟩⟩
  rw [cell_of_row _ _ _ _ _ _ (heap_alloc_new w _)]
  simp [hj]
theorem ints_nil (w : World) : IsI w none 0 0 [] := ⟨rfl, Nat.le_refl _, (fun _ h => by cases h), .inl rfl⟩
theorem bytes_new (w : World) (l : List UInt8) (t : TypeId) : IsB (w.alloc (.cells (Go.Lib.byteCells l).toArray t)) (some ⟨w.heap.size, 0, none⟩) l.length l.length l := by
  refine ⟨rfl, Nat.le_refl _, (fun h => by cases h), .inr ⟨_, _, rfl, fun j z hj => ?_⟩⟩
  rw [cell_of_row _ _ _ _ _ _ (heap_alloc_new w _)]
  simp [Go.Lib.byteCells, hj]
end Go.Proofs.Ytdcflgblaljdeaa
