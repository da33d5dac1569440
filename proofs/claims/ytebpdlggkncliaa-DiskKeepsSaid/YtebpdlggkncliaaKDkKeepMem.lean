/-
  DiskKeeps: what the law holds beside the disk: three names, three rows of bytes, three numbers, three marks.
-/
import Derived.Test.YtebpdlggkncliaaK3
set_option linter.unusedVariables false
set_option linter.unusedSimpArgs false
namespace Go.Proofs.Ytebpdlggkncliaa
open Go.RowKit
open Go.Lib (byteCells byteCells_length byteCells_append)

theorem IsB.awayK {F : Nat → Prop} {w w' : World} {A : Option Addr} {n c : Nat} {l : List UInt8} (h : IsB w A n c l) (ha : Away F w w') (hf : ∀ ad, A = some ad → ¬ F ad.block) : IsB w' A n c l := by
  refine ⟨h.len, h.cap, h.none_, ?_⟩
  rcases h.src with h0 | ⟨b, o, hA, hc⟩
  · exact .inl h0
  · refine .inr ⟨b, o, hA, fun j u hj => ?_⟩
    have h1 := hc j u hj
    have hb := block_lt_of_cell h1
    have h2 := ha.block b hb (hf _ hA)
    simp only [World.cell?, h2] at h1 ⊢
    exact h1
theorem setCell_self (w : World) (g k : Nat) (x : Value) {cs : Array Value} {t : TypeId} {fr : Nat × Nat} (h : w.heap[g]? = some (.cells cs t fr)) : (w.setCell ⟨g, k, none⟩ x).heap[g]? = some (.cells (cs.setIfInBounds k x) t fr) := by
  simp [World.setCell, Array.getElem?_modify, h]
theorem set_at {cs : Array Value} {k : Nat} {x : Value} (hk : k < cs.size) (j : Nat) : (cs.setIfInBounds k x)[j]? = if j = k then some x else cs[j]? := by
  rw [Array.getElem?_setIfInBounds]
  by_cases h : k = j
  · subst h; rw [if_pos rfl, if_pos rfl, if_pos hk]
  · rw [if_neg h, if_neg (fun e => h e.symm)]

/-- a slice that lies neither in the disk's blocks nor in the law's own three -/
def Aside (w : World) (G : Nat → Prop) (ba bs bt : Nat) (A : Option Addr) : Prop := ∀ ad, A = some ad → ad.block < w.heap.size ∧ ¬ G ad.block ∧ ad.block ≠ ba ∧ ad.block ≠ bs ∧ ad.block ≠ bt
structure KMem (w : World) (G : Nat → Prop) (bn ba bs bt : Nat) (v : Nat → List UInt8) (m : Nat → Nat) (t : Nat → Bool) : Prop where
  names : w.heap[bn]? = some (.cells #[.string ⟨#[97]⟩, .string ⟨#[98]⟩, .string ⟨#[99]⟩] 9 (0, 0))
  rows : ∃ cs : Array Value, w.heap[ba]? = some (.cells cs 62 (0, 0)) ∧ cs.size = 3 ∧ ∀ k, k < 3 → ∃ A n c, cs[k]? = some (Value.slice A n c) ∧ IsB w A n c (v k) ∧ Aside w G ba bs bt A
  marks : ∃ cs : Array Value, w.heap[bs]? = some (.cells cs 63 (0, 0)) ∧ cs.size = 3 ∧ ∀ k, k < 3 → cs[k]? = some (Value.int .i64 (m k : Int))
  there : ∃ cs : Array Value, w.heap[bt]? = some (.cells cs 64 (0, 0)) ∧ cs.size = 3 ∧ ∀ k, k < 3 → cs[k]? = some (Value.bool (t k))
  free : ¬ G bn ∧ ¬ G ba ∧ ¬ G bs ∧ ¬ G bt
  apart : (ba ≠ bn ∧ bs ≠ bn ∧ bt ≠ bn) ∧ ba ≠ bs ∧ ba ≠ bt ∧ bs ≠ bt
section
variable {w w' : World} {G : Nat → Prop} {bn ba bs bt : Nat} {v : Nat → List UInt8} {m : Nat → Nat} {t : Nat → Bool}
theorem heap_lt {w : World} {b : Nat} {o : Obj} (h : w.heap[b]? = some o) : b < w.heap.size := (Array.getElem?_eq_some_iff.1 h).1
/-- behind a call that turns the disk's blocks, and new ones -/
theorem KMem.turn (h : KMem w G bn ba bs bt v m t) {G' : Nat → Prop} (ha : Away G w w') (hG : ∀ b, G' b → G b ∨ w.heap.size ≤ b) : KMem w' G' bn ba bs bt v m t := by
  obtain ⟨hn, ⟨ca, hca, sa, ra⟩, ⟨cs, hcs, ss, rs⟩, ⟨ct, hct, st, rt⟩, ⟨f0, f1, f2, f3⟩, hap⟩ := h
  have no : ∀ {b : Nat} {o : Obj}, w.heap[b]? = some o → ¬ G b → w'.heap[b]? = some o ∧ ¬ G' b := fun hb hf => ⟨(ha.block _ (heap_lt hb) hf).trans hb, fun e => by rcases hG _ e with e | e; exact hf e; have := heap_lt hb; omega⟩
  refine ⟨(no hn f0).1, ⟨ca, (no hca f1).1, sa, fun k hk => ?_⟩, ⟨cs, (no hcs f2).1, ss, rs⟩, ⟨ct, (no hct f3).1, st, rt⟩, ⟨(no hn f0).2, (no hca f1).2, (no hcs f2).2, (no hct f3).2⟩, hap⟩
  obtain ⟨A, n, c, e, hI, hA⟩ := ra k hk
  refine ⟨A, n, c, e, hI.awayK ha fun ad h1 => (hA ad h1).2.1, fun ad h1 => ?_⟩
  obtain ⟨h2, h3, h4⟩ := hA ad h1
  exact ⟨Nat.lt_of_lt_of_le h2 ha.size, fun e => (by rcases hG _ e with e | e; exact h3 e; omega), h4⟩
theorem KMem.below (h : KMem w G bn ba bs bt v m t) (hb : Below w.heap.size w w') (hG : ∀ b, G b → b < w.heap.size) : KMem w' G bn ba bs bt v m t :=
  h.turn (Away.of_new hb G) fun b e => .inl e
theorem cell_at {w : World} {g k : Nat} {cs : Array Value} {T : TypeId} {fr : Nat × Nat} {x : Value} (h : w.heap[g]? = some (.cells cs T fr)) (hk : cs[k]? = some x) : w.cell? ⟨g, k, none⟩ = some x := by
  rw [cell_of_row w g k cs T fr h]
  exact hk
theorem free_at {w : World} {g k : Nat} {cs : Array Value} {T : TypeId} (h : w.heap[g]? = some (.cells cs T (0, 0))) : w.frozen? ⟨g, k, none⟩ = false := by simp [World.frozen?, h]
def nmS (k : Nat) : ByteArray := ⟨#[(97 + k).toUInt8]⟩
theorem nmS_list (k : Nat) : (nmS k).data.toList = nmK k := rfl
theorem nmS_size (k : Nat) : (nmS k).size ≤ maxLen := by show 1 ≤ maxLen; decide
theorem KMem.name (h : KMem w G bn ba bs bt v m t) {k : Nat} (hk : k < 3) : w.cell? ⟨bn, k, none⟩ = some (.string (nmS k)) := by
  match k, hk with
  | 0, _ => exact cell_at h.names rfl
  | 1, _ => exact cell_at h.names rfl
  | 2, _ => exact cell_at h.names rfl
theorem KMem.row (h : KMem w G bn ba bs bt v m t) {k : Nat} (hk : k < 3) : ∃ A n c, w.cell? ⟨ba, k, none⟩ = some (.slice A n c) ∧ IsB w A n c (v k) ∧ Aside w G ba bs bt A := by
  obtain ⟨ca, hca, sa, ra⟩ := h.rows
  obtain ⟨A, n, c, e, hI, hA⟩ := ra k hk
  exact ⟨A, n, c, cell_at hca e, hI, hA⟩
theorem KMem.mark (h : KMem w G bn ba bs bt v m t) {k : Nat} (hk : k < 3) : w.cell? ⟨bs, k, none⟩ = some (.int .i64 (m k : Int)) := by
  obtain ⟨cs, hcs, _, rs⟩ := h.marks
  exact cell_at hcs (rs k hk)
theorem KMem.is_ (h : KMem w G bn ba bs bt v m t) {k : Nat} (hk : k < 3) : w.cell? ⟨bt, k, none⟩ = some (.bool (t k)) := by
  obtain ⟨ct, hct, _, rt⟩ := h.there
  exact cell_at hct (rt k hk)
theorem KMem.frees (h : KMem w G bn ba bs bt v m t) (k : Nat) : w.frozen? ⟨ba, k, none⟩ = false ∧ w.frozen? ⟨bs, k, none⟩ = false ∧ w.frozen? ⟨bt, k, none⟩ = false := by
  obtain ⟨ca, hca, _⟩ := h.rows
  obtain ⟨cs, hcs, _⟩ := h.marks
  obtain ⟨ct, hct, _⟩ := h.there
  exact ⟨free_at hca, free_at hcs, free_at hct⟩
theorem size_set (w : World) (p : Addr) (x : Value) : (w.setCell p x).heap.size = w.heap.size := by simp [World.setCell]
theorem Aside.set {A : Option Addr} (h : Aside w G ba bs bt A) (p : Addr) (x : Value) : Aside (w.setCell p x) G ba bs bt A := fun ad e => by
  rw [size_set]
  exact h ad e
theorem KMem.setRow (h : KMem w G bn ba bs bt v m t) {k : Nat} (hk : k < 3) {A : Option Addr} {n c : Nat} {l : List UInt8} (hI : IsB w A n c l) (hA : Aside w G ba bs bt A) : KMem (w.setCell ⟨ba, k, none⟩ (.slice A n c)) G bn ba bs bt (upd v k l) m t := by
  obtain ⟨hn, ⟨ca, hca, sa, ra⟩, ⟨cs, hcs, ss, rs⟩, ⟨ct, hct, st, rt⟩, hf, hap⟩ := h
  have ha := Away.setCell w ⟨ba, k, none⟩ (.slice A n c)
  have no : ∀ {b : Nat} {o : Obj}, w.heap[b]? = some o → b ≠ ba → (w.setCell ⟨ba, k, none⟩ (.slice A n c)).heap[b]? = some o := fun hb hne => (ha.block _ (heap_lt hb) hne).trans hb
  refine ⟨no hn hap.1.1.symm, ⟨_, setCell_self w ba k _ hca, by rw [Array.size_setIfInBounds]; exact sa, fun j hj => ?_⟩, ⟨cs, no hcs hap.2.1.symm, ss, rs⟩, ⟨ct, no hct hap.2.2.1.symm, st, rt⟩, hf, hap⟩
  rw [set_at (by rw [sa]; exact hk)]
  by_cases hjk : j = k
  · subst hjk
    rw [if_pos rfl, upd_self]
    exact ⟨A, n, c, rfl, hI.awayK ha fun ad e => (hA ad e).2.2.1, hA.set _ _⟩
  · rw [if_neg hjk, upd_ne _ _ hjk]
    obtain ⟨A', n', c', e, hI', hA'⟩ := ra j hj
    exact ⟨A', n', c', e, hI'.awayK ha fun ad e => (hA' ad e).2.2.1, hA'.set _ _⟩
theorem KMem.setMark (h : KMem w G bn ba bs bt v m t) {k : Nat} (hk : k < 3) (x : Nat) : KMem (w.setCell ⟨bs, k, none⟩ (.int .i64 (x : Int))) G bn ba bs bt v (upd m k x) t := by
  obtain ⟨hn, ⟨ca, hca, sa, ra⟩, ⟨cs, hcs, ss, rs⟩, ⟨ct, hct, st, rt⟩, hf, hap⟩ := h
  have ha := Away.setCell w ⟨bs, k, none⟩ (.int .i64 (x : Int))
  have no : ∀ {b : Nat} {o : Obj}, w.heap[b]? = some o → b ≠ bs → (w.setCell ⟨bs, k, none⟩ (.int .i64 (x : Int))).heap[b]? = some o := fun hb hne => (ha.block _ (heap_lt hb) hne).trans hb
  refine ⟨no hn hap.1.2.1.symm, ⟨ca, no hca hap.2.1, sa, fun j hj => ?_⟩, ⟨_, setCell_self w bs k _ hcs, by rw [Array.size_setIfInBounds]; exact ss, fun j hj => ?_⟩, ⟨ct, no hct hap.2.2.2.symm, st, rt⟩, hf, hap⟩
  · obtain ⟨A', n', c', e, hI', hA'⟩ := ra j hj
    exact ⟨A', n', c', e, hI'.awayK ha fun ad e => (hA' ad e).2.2.2.1, hA'.set _ _⟩
  · rw [set_at (by rw [ss]; exact hk)]
    by_cases hjk : j = k
    · subst hjk; rw [if_pos rfl, upd_self]
    · rw [if_neg hjk, upd_ne _ _ hjk]; exact rs j hj
theorem KMem.setIs (h : KMem w G bn ba bs bt v m t) {k : Nat} (hk : k < 3) (x : Bool) : KMem (w.setCell ⟨bt, k, none⟩ (.bool x)) G bn ba bs bt v m (upd t k x) := by
  obtain ⟨hn, ⟨ca, hca, sa, ra⟩, ⟨cs, hcs, ss, rs⟩, ⟨ct, hct, st, rt⟩, hf, hap⟩ := h
  have ha := Away.setCell w ⟨bt, k, none⟩ (.bool x)
  have no : ∀ {b : Nat} {o : Obj}, w.heap[b]? = some o → b ≠ bt → (w.setCell ⟨bt, k, none⟩ (.bool x)).heap[b]? = some o := fun hb hne => (ha.block _ (heap_lt hb) hne).trans hb
  refine ⟨no hn hap.1.2.2.symm, ⟨ca, no hca hap.2.2.1, sa, fun j hj => ?_⟩, ⟨cs, no hcs hap.2.2.2, ss, rs⟩, ⟨_, setCell_self w bt k _ hct, by rw [Array.size_setIfInBounds]; exact st, fun j hj => ?_⟩, hf, hap⟩
  · obtain ⟨A', n', c', e, hI', hA'⟩ := ra j hj
    exact ⟨A', n', c', e, hI'.awayK ha fun ad e => (hA' ad e).2.2.2.2, hA'.set _ _⟩
  · rw [set_at (by rw [st]; exact hk)]
    by_cases hjk : j = k
    · subst hjk; rw [if_pos rfl, upd_self]
    · rw [if_neg hjk, upd_ne _ _ hjk]; exact rt j hj
end

/- ## The disk and what the law holds, side by side -/
def KR (w0 w : World) (a bn ba bs bt : Nat) (s : St) (v : Nat → List UInt8) (m : Nat → Nat) (t : Nat → Bool) : Prop :=
  ∃ G, Dk w G a s ∧ KMem w G bn ba bs bt v m t ∧ (∀ b, G b → w0.heap.size ≤ b) ∧ (w0.heap.size ≤ bn ∧ w0.heap.size ≤ ba ∧ w0.heap.size ≤ bs ∧ w0.heap.size ≤ bt) ∧ Below w0.heap.size w0 w
section
variable {w0 w : World} {a bn ba bs bt : Nat} {s : St} {v : Nat → List UInt8} {m : Nat → Nat} {t : Nat → Bool}
theorem KR.turn (h : KR w0 w a bn ba bs bt s v m t) {G : Nat → Prop} (hG : Dk w G a s ∧ KMem w G bn ba bs bt v m t ∧ (∀ b, G b → w0.heap.size ≤ b)) {w' : World} {s' : St} (ht : Turned w G a w' s') : KR w0 w' a bn ba bs bt s' v m t := by
  obtain ⟨_, _, _, _, hl, hb⟩ := h
  obtain ⟨hd, hm, hlow⟩ := hG
  obtain ⟨G', hd', ha, hG'⟩ := ht
  refine ⟨G', hd', hm.turn ha hG', fun b e => ?_, hl, ?_⟩
  · rcases hG' b e with e | e
    · exact hlow b e
    · exact Nat.le_trans hb.size e
  · have := (Away.of_below hb).trans ha fun b e => .inl (hlow b e)
    exact this.below (Nat.le_refl _) fun b e => e
theorem KR.below (h : KR w0 w a bn ba bs bt s v m t) {w' : World} (hb : Below w.heap.size w w') : KR w0 w' a bn ba bs bt s v m t := by
  obtain ⟨G, hd, hm, hlow, hl, h0⟩ := h
  exact ⟨G, hd.below hb, hm.below hb fun b e => hd.2.1 b e, hlow, hl, h0.trans (hb.mono h0.size)⟩
theorem KR.bel (h : KR w0 w a bn ba bs bt s v m t) : Below w0.heap.size w0 w := by obtain ⟨_, _, _, _, _, h⟩ := h; exact h
theorem KR.put (h : KR w0 w a bn ba bs bt s v m t) {g k : Nat} {x : Value} {v' : Nat → List UInt8} {m' : Nat → Nat} {t' : Nat → Bool} (hg : g = ba ∨ g = bs ∨ g = bt)
    (hm : ∀ G, KMem w G bn ba bs bt v m t → (∀ b, G b → b < w.heap.size ∧ w0.heap.size ≤ b) → KMem (w.setCell ⟨g, k, none⟩ x) G bn ba bs bt v' m' t') : KR w0 (w.setCell ⟨g, k, none⟩ x) a bn ba bs bt s v' m' t' := by
  obtain ⟨G, hd, hm0, hlow, hl, h0⟩ := h
  have hng : ¬ G g := by rcases hg with rfl | rfl | rfl; exact hm0.free.2.1; exact hm0.free.2.2.1; exact hm0.free.2.2.2
  have hlg : w0.heap.size ≤ g := by rcases hg with rfl | rfl | rfl; exact hl.2.1; exact hl.2.2.1; exact hl.2.2.2
  exact ⟨G, hd.away (Away.setCell w ⟨g, k, none⟩ x) (fun b hb e => hng (by have e : b = g := e; rwa [← e])), hm G hm0 fun b hb => ⟨hd.2.1 b hb, hlow b hb⟩, hlow, hl, h0.setCell (p := ⟨g, k, none⟩) hlg x⟩
/-- a new slice of bytes is stored: its block is newer than the world w -/
theorem KR.store (h : KR w0 w a bn ba bs bt s v m t) {w1 : World} (hb : Below w.heap.size w w1) {A : Option Addr} {n c : Nat} {l : List UInt8} (hI : IsB w1 A n c l) (hA : ∀ ad, A = some ad → w.heap.size ≤ ad.block ∧ ad.block < w1.heap.size) {k : Nat} (hk : k < 3) :
    KR w0 (w1.setCell ⟨ba, k, none⟩ (.slice A n c)) a bn ba bs bt s (upd v k l) m t := by
  have h1 := h.below hb
  obtain ⟨G, hd, hm, hlow, hl, h0⟩ := h
  have ha := heap_lt hm.rows.choose_spec.1
  have hs := heap_lt hm.marks.choose_spec.1
  have ht := heap_lt hm.there.choose_spec.1
  have hng : ¬ G ba := hm.free.2.1
  have hm1 := hm.below hb fun b e => hd.2.1 b e
  refine ⟨G, (hd.below hb).away (Away.setCell w1 ⟨ba, k, none⟩ _) (fun b hG e => hng (by have e : b = ba := e; rwa [← e])), hm1.setRow hk hI fun ad e => ?_, hlow, hl, h1.bel.setCell (p := ⟨ba, k, none⟩) hl.2.1 _⟩
  obtain ⟨h2, h3⟩ := hA ad e
  exact ⟨h3, fun e => (by have := hd.2.1 _ e; omega), by omega, by omega, by omega⟩
theorem KR.rowAt (h : KR w0 w a bn ba bs bt s v m t) {k : Nat} (hk : k < 3) : ∃ A n c, w.cell? ⟨ba, k, none⟩ = some (.slice A n c) ∧ IsB w A n c (v k) ∧ ∀ o, o < 3 → KR w0 (w.setCell ⟨ba, o, none⟩ (.slice A n c)) a bn ba bs bt s (upd v o (v k)) m t := by
  obtain ⟨G, hd, hm, hlow, hl, h0⟩ := h
  obtain ⟨A, n, c, hc, hI, hA⟩ := hm.row hk
  have hng : ¬ G ba := hm.free.2.1
  exact ⟨A, n, c, hc, hI, fun o ho => ⟨G, hd.away (Away.setCell w ⟨ba, o, none⟩ _) (fun b hG e => hng (by have e : b = ba := e; rwa [← e])), hm.setRow ho hI hA, hlow, hl, h0.setCell (p := ⟨ba, o, none⟩) hl.2.1 _⟩⟩
theorem KR.empty (h : KR w0 w a bn ba bs bt s v m t) {k : Nat} (hk : k < 3) : KR w0 (w.setCell ⟨ba, k, none⟩ (.slice none 0 0)) a bn ba bs bt s (upd v k []) m t := by
  obtain ⟨G, hd, hm, hlow, hl, h0⟩ := h
  have hng : ¬ G ba := hm.free.2.1
  exact ⟨G, hd.away (Away.setCell w ⟨ba, k, none⟩ _) (fun b hG e => hng (by have e : b = ba := e; rwa [← e])), hm.setRow hk (IsB.nil w) (fun ad e => by cases e), hlow, hl, h0.setCell (p := ⟨ba, k, none⟩) hl.2.1 _⟩
theorem KR.setMark (h : KR w0 w a bn ba bs bt s v m t) {k : Nat} (hk : k < 3) (x : Nat) : KR w0 (w.setCell ⟨bs, k, none⟩ (.int .i64 (x : Int))) a bn ba bs bt s v (upd m k x) t :=
  h.put (.inr (.inl rfl)) fun G hm _ => hm.setMark hk x
theorem KR.setIs (h : KR w0 w a bn ba bs bt s v m t) {k : Nat} (hk : k < 3) (x : Bool) : KR w0 (w.setCell ⟨bt, k, none⟩ (.bool x)) a bn ba bs bt s v m (upd t k x) :=
  h.put (.inr (.inr rfl)) fun G hm _ => hm.setIs hk x
theorem KR.name (h : KR w0 w a bn ba bs bt s v m t) {k : Nat} (hk : k < 3) : w.cell? ⟨bn, k, none⟩ = some (.string (nmS k)) := by
  obtain ⟨G, hd, hm, _⟩ := h
  exact hm.name hk
theorem KR.mark (h : KR w0 w a bn ba bs bt s v m t) {k : Nat} (hk : k < 3) : w.cell? ⟨bs, k, none⟩ = some (.int .i64 (m k : Int)) := by
  obtain ⟨G, hd, hm, _⟩ := h
  exact hm.mark hk
theorem KR.is_ (h : KR w0 w a bn ba bs bt s v m t) {k : Nat} (hk : k < 3) : w.cell? ⟨bt, k, none⟩ = some (.bool (t k)) := by
  obtain ⟨G, hd, hm, _⟩ := h
  exact hm.is_ hk
theorem KR.frees (h : KR w0 w a bn ba bs bt s v m t) (k : Nat) : w.frozen? ⟨ba, k, none⟩ = false ∧ w.frozen? ⟨bs, k, none⟩ = false ∧ w.frozen? ⟨bt, k, none⟩ = false := by
  obtain ⟨G, hd, hm, _⟩ := h
  exact hm.frees k
theorem KR.dk (h : KR w0 w a bn ba bs bt s v m t) : ∃ G, Dk w G a s ∧ KMem w G bn ba bs bt v m t ∧ (∀ b, G b → w0.heap.size ≤ b) := by
  obtain ⟨G, hd, hm, hlow, _⟩ := h
  exact ⟨G, hd, hm, hlow⟩
end
end Go.Proofs.Ytebpdlggkncliaa
