/-
  put and Put: an event's bytes beside the one ahead, put behind others.
-/
import Derived.Test.YtebpdlggkncliaaKEvEach
import Derived.Test.YtebpdlggkncliaaK2
set_option linter.unusedVariables false
set_option linter.unusedSimpArgs false
namespace Go.Proofs.Ytebpdlggkncliaa
open Go.RowKit
open Go.Lib (byteCells byteCells_length byteCells_append uvarint)

theorem byteLow' {n : Nat} (h : n < 256) : ((n.toUInt8).toNat : Int) = (n : Int) := by rw [byte_toNat h]
/-- what the first append of put makes -/
def Puts (w : World) (F : Nat → Prop) (l : List UInt8) (A : Option Addr) (n c op : Nat) : Prop :=
  ∀ W, Below w.heap.size w W → ∀ B, IsB W (some B) 1 1 [op.toUInt8] → ∃ v' w', (Builtin.append_ #[26, 26] 26 #[.slice A n c, .slice (some B) 1 1]).run Try.prog W = .ok v' w' ∧
    ∃ r : Raw, v' = r.sl ∧ FRow w' r ∧ r.c = (l ++ [op.toUInt8], 0) ∧ (∀ b, r.g = some b → F b ∨ W.heap.size ≤ b) ∧ Away F W w'
theorem Src.cells1 {w : World} {A : Option Addr} {l : List UInt8} (h : Src w A l) {b : Addr} (hb : A = some b) : ∀ j u, l[j]? = some u → w.cell? (b.add j) = some (.int .u8 (u.toNat : Int)) := by
  intro j u hj
  have := h.cells b hb j (.int .u8 (u.toNat : Int)) (by rw [byteCells, List.getElem?_map, hj]; rfl)
  exact this
theorem allocs4 (w : World) (o1 o2 o3 o4 : Obj) : Below w.heap.size w ((((w.alloc o1).alloc o2).alloc o3).alloc o4) ∧ ((((w.alloc o1).alloc o2).alloc o3).alloc o4).heap[w.heap.size]? = some o1 ∧
    ((((w.alloc o1).alloc o2).alloc o3).alloc o4).heap[w.heap.size + 1]? = some o2 ∧ ((((w.alloc o1).alloc o2).alloc o3).alloc o4).heap[w.heap.size + 1 + 1]? = some o3 ∧
    ((((w.alloc o1).alloc o2).alloc o3).alloc o4).heap[w.heap.size + 1 + 1 + 1]? = some o4 ∧ ((((w.alloc o1).alloc o2).alloc o3).alloc o4).heap.size = w.heap.size + 4 := by
  refine ⟨(((((Below.refl _ w).alloc (Nat.le_refl _) _).alloc (by simp) _).alloc (by simp; omega) _).alloc (by simp; omega) _), ?_, ?_, ?_, ?_, ?_⟩
  · rw [heap_alloc_old _ _ (by simp; omega), heap_alloc_old _ _ (by simp; omega), heap_alloc_old _ _ (by simp)]
    exact heap_alloc_new w o1
  · rw [heap_alloc_old _ _ (by simp), heap_alloc_old _ _ (by simp)]
    have := heap_alloc_new (w.alloc o1) o2
    simpa using this
  · rw [heap_alloc_old _ _ (by simp)]
    have := heap_alloc_new ((w.alloc o1).alloc o2) o3
    simpa using this
  · have := heap_alloc_new (((w.alloc o1).alloc o2).alloc o3) o4
    simpa using this
  · simp
set_option maxRecDepth 100000 in
set_option maxHeartbeats 2000000 in
theorem put_from {w : World} {F : Nat → Prop} {l : List UInt8} {A : Option Addr} {n c : Nat} {e p : Ev} (hF : ∀ b, F b → b < w.heap.size) (hl : l.length ≤ 800000) (hop : e.op < 256) (hap : Puts w F l A n c e.op) :
    Calls Try.prog 102 #[.slice A n c, .agg #[.int .i64 p.th, .int .u8 (p.op : Int), .int .i64 p.obj, .int .i64 p.a, .int .i64 p.b], .agg #[.int .i64 e.th, .int .u8 (e.op : Int), .int .i64 e.obj, .int .i64 e.a, .int .i64 e.b]] w fun x w' =>
      ∃ r : Raw, x = .returned r.sl ∧ FRow w' r ∧ r.c = (l ++ encEv p e, 0) ∧ (∀ b, r.g = some b → F b ∨ w.heap.size ≤ b) ∧ Away F w w' := by
  have HAP := Lib.hid hap
  have HF := Lib.hid hF
  have hw8 : IntKind.u8.wrap (e.op : Int) = (e.op : Int) := by rw [IntKind.wrap_u8']; omega
  clear hap hF
  obtain ⟨hB4, k0, k1, k2, k3, kz⟩ := allocs4 w (.cells #[.slice A n c] 26) (.cells #[.int .i64 p.th, .int .u8 (p.op : Int), .int .i64 p.obj, .int .i64 p.a, .int .i64 p.b] 70) (.cells #[.int .i64 e.th, .int .u8 (e.op : Int), .int .i64 e.obj, .int .i64 e.a, .int .i64 e.b] 70) (.cells #[.int .u8 (e.op : Int)] 5)
  generalize hW4 : (((w.alloc (.cells #[.slice A n c] 26)).alloc (.cells #[.int .i64 p.th, .int .u8 (p.op : Int), .int .i64 p.obj, .int .i64 p.a, .int .i64 p.b] 70)).alloc (.cells #[.int .i64 e.th, .int .u8 (e.op : Int), .int .i64 e.obj, .int .i64 e.a, .int .i64 e.b] 70)).alloc (.cells #[.int .u8 (e.op : Int)] 5) = W4 at hB4 k0 k1 k2 k3 kz
  have hI : IsB W4 (some ⟨w.heap.size + 1 + 1 + 1, 0, none⟩) 1 1 [e.op.toUInt8] := by
    refine ⟨rfl, Nat.le_refl _, (fun e => by cases e), .inr ⟨_, 0, rfl, fun j u hj => ?_⟩⟩
    match j, hj with
    | 0, hj => simp at hj; subst hj; rw [byteLow' hop]; exact cell_of_row _ _ 0 _ _ _ k3
  obtain ⟨v', w1, hr, r, rfl, hrow, hrc, hrg, hag⟩ := HAP.out W4 hB4 _ hI
  obtain ⟨A', m', c', hA'⟩ : ∃ A m c, r.sl = .slice A m c := ⟨_, _, _, rfl⟩
  rw [hA'] at hr
  have hag' : Away F w w1 := (Away.of_new hB4 F).trans hag fun b h => .inl h
  have nf : ∀ b, w.heap.size ≤ b → ¬ F b := fun b hb h => by have := HF.out b h; omega
  have q0 := (hag.block (w.heap.size) (by omega) (nf _ (by omega))).trans k0
  have q1 := (hag.block (w.heap.size + 1) (by omega) (nf _ (by omega))).trans k1
  have q2 := (hag.block (w.heap.size + 1 + 1) (by omega) (nf _ (by omega))).trans k2
  have z0 := free_of_row q0 0
  have y0 : w1.cell? ⟨w.heap.size, 0, none⟩ = some (.slice A n c) := cell_of_row w1 _ 0 _ _ _ q0
  have hS := Away.setCell w1 ⟨w.heap.size, 0, none⟩ (.slice A' m' c')
  have s0 : (w1.setCell ⟨w.heap.size, 0, none⟩ (.slice A' m' c')).heap[w.heap.size]? = some (.cells #[r.sl] 26 (0, 0)) := by rw [set_blk q0 0, hA']; rfl
  have s1 := (hS.block (w.heap.size + 1) (Array.getElem?_eq_some_iff.1 q1).1 (by simp)).trans q1
  have s2 := (hS.block (w.heap.size + 1 + 1) (Array.getElem?_eq_some_iff.1 q2).1 (by simp; omega)).trans q2
  have hrn : ∀ b, r.g = some b → b ≠ w.heap.size := fun b hb h => by
    rcases hrg b hb with h' | h'
    · have := HF.out b h'; omega
    · omega
  have hrow2 := hrow.away hS hrn
  have x1 : (w1.setCell ⟨w.heap.size, 0, none⟩ (.slice A' m' c')).cell? ⟨w.heap.size + 1, 0, none⟩ = some (.int .i64 p.th) := cell_of_row _ _ 0 _ _ _ s1
  have x2 : (w1.setCell ⟨w.heap.size, 0, none⟩ (.slice A' m' c')).cell? ⟨w.heap.size + 1, 1, none⟩ = some (.int .u8 (p.op : Int)) := cell_of_row _ _ 1 _ _ _ s1
  have x3 : (w1.setCell ⟨w.heap.size, 0, none⟩ (.slice A' m' c')).cell? ⟨w.heap.size + 1, 2, none⟩ = some (.int .i64 p.obj) := cell_of_row _ _ 2 _ _ _ s1
  have x4 : (w1.setCell ⟨w.heap.size, 0, none⟩ (.slice A' m' c')).cell? ⟨w.heap.size + 1, 3, none⟩ = some (.int .i64 p.a) := cell_of_row _ _ 3 _ _ _ s1
  have x5 : (w1.setCell ⟨w.heap.size, 0, none⟩ (.slice A' m' c')).cell? ⟨w.heap.size + 1, 4, none⟩ = some (.int .i64 p.b) := cell_of_row _ _ 4 _ _ _ s1
  have HE := Lib.hid (each_put' (p := p) (l := l ++ [e.op.toUInt8]) (s := 0) s0 s2 hrow2 (by rw [List.length_append]; simp; omega) hrc rfl)
  have HK := Lib.hid hag'
  have HR := Lib.hid hrg
  have HS := Lib.hid hS
  have KZ := Lib.hid kz
  clear hA' q0 q1 q2 s0 s1 s2 k0 k1 k2 k3 hag hag' hS hrow hrow2 hrn nf hrc hrg hI hB4 kz
  go_enter Try.func102, Try.ntmps102
  go_wp2_with (at_builtin; (try rw [hW4]); refine wpList_run _ rfl (.tmp 7) (.tmp 10) 26 rfl (R := fun v' w' => v' = .slice A' m' c' ∧ w' = w1) ⟨_, _, hr, rfl, rfl⟩ ?_; rintro v' w' ⟨rfl, rfl⟩)
  refine HE.out.mono ?_
  rintro x w5 ⟨rfl, r', ho5, hr5, hc5, hg5, hA5⟩
  have x6 : w5.cell? ⟨w.heap.size, 0, none⟩ = some r'.sl := cell_of_row _ _ 0 _ _ _ ho5
  have HC := Lib.hid hc5
  clear hc5 ho5 HE
  go_wp2_with fail
  go_ret
  have hz := HK.out.size
  have hz4 := KZ.out
  refine ⟨r', rfl, hr5, by rw [HC.out, List.append_assoc]; rfl, ?_, ?_⟩
  · intro b hb
    rcases hg5 with h | ⟨b', hb', hz'⟩
    · rw [h] at hb
      rcases HR.out b hb with h | h
      · exact .inl h
      · exact .inr (by omega)
    · rw [hb] at hb'; injection hb' with hb'; exact .inr (by have := HS.out.size; omega)
  · refine (HK.out.trans HS.out fun b h => .inr (by omega)).trans hA5 fun b h => ?_
    rcases h with h | h | h
    · exact .inr (by omega)
    · exact .inr (by omega)
    · rcases HR.out b h with h | h
      · exact .inl h
      · exact .inr (by omega)
theorem puts_row {w : World} {r : Raw} (hr : FRow w r) (hs : r.c.2 = 0) (hl : r.c.1.length ≤ 800000) {A : Option Addr} {n c : Nat} (hA : r.sl = .slice A n c) (op : Nat) : Puts w (fun b => r.g = some b) r.c.1 A n c op := by
  intro W hB B hI
  have hr' := hr.away (Away.of_new hB (fun _ => False)) fun _ _ f => f
  obtain ⟨r', w', hrun, hc, hrow, hgr, hg⟩ := row_append hr' 26 hI (by omega)
  rw [hA] at hrun
  refine ⟨_, w', hrun, r', rfl, hrow, by rw [hc, hs], fun b hb => ?_, Away.of_grown hgr⟩
  rcases hg with h | h
  · exact .inl (by rw [← h]; exact hb)
  · rw [hb] at h; injection h with h; exact .inr (by omega)
theorem puts_full {w : World} {A : Option Addr} {n : Nat} {l : List UInt8} (h : IsB w A n n l) (hl : n ≤ 800000) (op : Nat) : Puts w (fun _ => False) l A n n op := by
  intro W hB B hI
  obtain ⟨i0, h2, h3, h4, h5⟩ := info_parts infoU8
  have hf : Full W W.heap.size 5 (.slice A n n) l := (h.below hB).full
  obtain ⟨v', w', hrun, hown, hb⟩ := run_put (P := Try.prog) W 26 26 5 i0 Try.underlying26 h2 h3 h4 h5 W.heap.size _ l hf B 1 1 [op.toUInt8] rfl (by decide) (hI.src.cells1 rfl) (by rw [h.len]; omega) (Nat.le_refl _)
  obtain ⟨r, rfl, hc, hrow⟩ := row_of_own hown 0 rfl
  have hge : ∀ b, r.g = some b → W.heap.size ≤ b := fun b hb => (World.ownsRow.lt hown b (by rw [Raw.own, hb])).1
  exact ⟨_, w', hrun, r, rfl, hrow, hc, fun b hb => .inr (hge b hb), Away.of_new hb _⟩
/-- put, onto what the call owns -/
theorem put_row {w : World} {r : Raw} {e p : Ev} (hr : FRow w r) (hs : r.c.2 = 0) (hl : r.c.1.length ≤ 800000) (hop : e.op < 256) :
    Calls Try.prog 102 #[r.sl, .agg #[.int .i64 p.th, .int .u8 (p.op : Int), .int .i64 p.obj, .int .i64 p.a, .int .i64 p.b], .agg #[.int .i64 e.th, .int .u8 (e.op : Int), .int .i64 e.obj, .int .i64 e.a, .int .i64 e.b]] w fun x w' =>
      ∃ r' : Raw, x = .returned r'.sl ∧ FRow w' r' ∧ r'.c = (r.c.1 ++ encEv p e, 0) ∧ (∀ b, r'.g = some b → r.g = some b ∨ w.heap.size ≤ b) ∧ Away (fun b => r.g = some b) w w' := by
  obtain ⟨A, n, c, hA⟩ : ∃ A m c, r.sl = .slice A m c := ⟨_, _, _, rfl⟩
  have := put_from (p := p) (fun b hb => hr.lt hb) hl hop (puts_row hr hs hl hA e.op)
  rwa [← hA] at this
/-- put, onto what is full -/
theorem put_full {w : World} {A : Option Addr} {n : Nat} {l : List UInt8} {e p : Ev} (h : IsB w A n n l) (hl : n ≤ 800000) (hop : e.op < 256) :
    Calls Try.prog 102 #[.slice A n n, .agg #[.int .i64 p.th, .int .u8 (p.op : Int), .int .i64 p.obj, .int .i64 p.a, .int .i64 p.b], .agg #[.int .i64 e.th, .int .u8 (e.op : Int), .int .i64 e.obj, .int .i64 e.a, .int .i64 e.b]] w fun x w' =>
      ∃ r' : Raw, x = .returned r'.sl ∧ FRow w' r' ∧ r'.c = (l ++ encEv p e, 0) ∧ (∀ b, r'.g = some b → w.heap.size ≤ b) ∧ Below w.heap.size w w' := by
  refine (put_from (p := p) (F := fun _ => False) (fun b hb => hb.elim) (by rw [h.len]; exact hl) hop (puts_full h hl e.op)).mono ?_
  rintro x w' ⟨r, rfl, h1, h2, h3, h4⟩
  exact ⟨r, rfl, h1, h2, fun b hb => (h3 b hb).resolve_left id, h4.below (Nat.le_refl _) fun b hb => hb.elim⟩
/-- a row that is new is the call's own -/
theorem FRow.own {w : World} {r : Raw} {base : Nat} (h : FRow w r) (hg : ∀ b, r.g = some b → base ≤ b) : Own w base 5 r.sl r.c.1 := by
  refine ⟨h.1, ?_⟩
  rcases h.2 with hn | ⟨g, cap, cur, hv, hbg, hr⟩
  · exact .inl hn
  · refine .inr ⟨g, cap, cur, hv, hg g ?_, hr⟩
    have := Raw.own r
    rw [hv] at this
    exact this.symm

set_option maxRecDepth 100000 in
theorem Put_any (A : Option Addr) (n c : Nat) (l : List UInt8) (e p : Ev) (w : World) (h : IsB w A n c l) (hl : n ≤ 800000) (hop : e.op < 256) :
    Calls Try.prog 49 #[.slice A n c, .agg #[.int .i64 p.th, .int .u8 (p.op : Int), .int .i64 p.obj, .int .i64 p.a, .int .i64 p.b], .agg #[.int .i64 e.th, .int .u8 (e.op : Int), .int .i64 e.obj, .int .i64 e.a, .int .i64 e.b]] w fun x w' =>
      ∃ v, x = .returned v ∧ Own w' w.heap.size 5 v (l ++ encEv p e) ∧ Below w.heap.size w w' := by
  have hcap := h.cap
  have hf : IsB w A n n l := ⟨h.len, Nat.le_refl _, fun hA => by have := h.none_ hA; omega, h.src⟩
  clear h
  have q1 : ((w.alloc (.cells #[.int .i64 p.th, .int .u8 (p.op : Int), .int .i64 p.obj, .int .i64 p.a, .int .i64 p.b] 70)).alloc (.cells #[.int .i64 e.th, .int .u8 (e.op : Int), .int .i64 e.obj, .int .i64 e.a, .int .i64 e.b] 70)).heap[w.heap.size]? = some (.cells #[.int .i64 p.th, .int .u8 (p.op : Int), .int .i64 p.obj, .int .i64 p.a, .int .i64 p.b] 70) := (heap_alloc_old _ _ (by simp)).trans (heap_alloc_new _ _)
  have q2 : ((w.alloc (.cells #[.int .i64 p.th, .int .u8 (p.op : Int), .int .i64 p.obj, .int .i64 p.a, .int .i64 p.b] 70)).alloc (.cells #[.int .i64 e.th, .int .u8 (e.op : Int), .int .i64 e.obj, .int .i64 e.a, .int .i64 e.b] 70)).heap[w.heap.size + 1]? = some (.cells #[.int .i64 e.th, .int .u8 (e.op : Int), .int .i64 e.obj, .int .i64 e.a, .int .i64 e.b] 70) := by have := heap_alloc_new (w.alloc (.cells #[.int .i64 p.th, .int .u8 (p.op : Int), .int .i64 p.obj, .int .i64 p.a, .int .i64 p.b] 70)) (.cells #[.int .i64 e.th, .int .u8 (e.op : Int), .int .i64 e.obj, .int .i64 e.a, .int .i64 e.b] 70); simpa using this
  have hB2 : Below w.heap.size w ((w.alloc (.cells #[.int .i64 p.th, .int .u8 (p.op : Int), .int .i64 p.obj, .int .i64 p.a, .int .i64 p.b] 70)).alloc (.cells #[.int .i64 e.th, .int .u8 (e.op : Int), .int .i64 e.obj, .int .i64 e.a, .int .i64 e.b] 70)) := ((Below.refl _ w).alloc (Nat.le_refl _) _).alloc (by simp) _
  have x0 : ((w.alloc (.cells #[.int .i64 p.th, .int .u8 (p.op : Int), .int .i64 p.obj, .int .i64 p.a, .int .i64 p.b] 70)).alloc (.cells #[.int .i64 e.th, .int .u8 (e.op : Int), .int .i64 e.obj, .int .i64 e.a, .int .i64 e.b] 70)).cell? ⟨w.heap.size, 0, none⟩ = some (.int .i64 p.th) := cell_of_row _ _ 0 _ _ _ q1
  have x1 : ((w.alloc (.cells #[.int .i64 p.th, .int .u8 (p.op : Int), .int .i64 p.obj, .int .i64 p.a, .int .i64 p.b] 70)).alloc (.cells #[.int .i64 e.th, .int .u8 (e.op : Int), .int .i64 e.obj, .int .i64 e.a, .int .i64 e.b] 70)).cell? ⟨w.heap.size, 1, none⟩ = some (.int .u8 (p.op : Int)) := cell_of_row _ _ 1 _ _ _ q1
  have x2 : ((w.alloc (.cells #[.int .i64 p.th, .int .u8 (p.op : Int), .int .i64 p.obj, .int .i64 p.a, .int .i64 p.b] 70)).alloc (.cells #[.int .i64 e.th, .int .u8 (e.op : Int), .int .i64 e.obj, .int .i64 e.a, .int .i64 e.b] 70)).cell? ⟨w.heap.size, 2, none⟩ = some (.int .i64 p.obj) := cell_of_row _ _ 2 _ _ _ q1
  have x3 : ((w.alloc (.cells #[.int .i64 p.th, .int .u8 (p.op : Int), .int .i64 p.obj, .int .i64 p.a, .int .i64 p.b] 70)).alloc (.cells #[.int .i64 e.th, .int .u8 (e.op : Int), .int .i64 e.obj, .int .i64 e.a, .int .i64 e.b] 70)).cell? ⟨w.heap.size, 3, none⟩ = some (.int .i64 p.a) := cell_of_row _ _ 3 _ _ _ q1
  have x4 : ((w.alloc (.cells #[.int .i64 p.th, .int .u8 (p.op : Int), .int .i64 p.obj, .int .i64 p.a, .int .i64 p.b] 70)).alloc (.cells #[.int .i64 e.th, .int .u8 (e.op : Int), .int .i64 e.obj, .int .i64 e.a, .int .i64 e.b] 70)).cell? ⟨w.heap.size, 4, none⟩ = some (.int .i64 p.b) := cell_of_row _ _ 4 _ _ _ q1
  have y0 : ((w.alloc (.cells #[.int .i64 p.th, .int .u8 (p.op : Int), .int .i64 p.obj, .int .i64 p.a, .int .i64 p.b] 70)).alloc (.cells #[.int .i64 e.th, .int .u8 (e.op : Int), .int .i64 e.obj, .int .i64 e.a, .int .i64 e.b] 70)).cell? ⟨w.heap.size + 1, 0, none⟩ = some (.int .i64 e.th) := cell_of_row _ _ 0 _ _ _ q2
  have y1 : ((w.alloc (.cells #[.int .i64 p.th, .int .u8 (p.op : Int), .int .i64 p.obj, .int .i64 p.a, .int .i64 p.b] 70)).alloc (.cells #[.int .i64 e.th, .int .u8 (e.op : Int), .int .i64 e.obj, .int .i64 e.a, .int .i64 e.b] 70)).cell? ⟨w.heap.size + 1, 1, none⟩ = some (.int .u8 (e.op : Int)) := cell_of_row _ _ 1 _ _ _ q2
  have y2 : ((w.alloc (.cells #[.int .i64 p.th, .int .u8 (p.op : Int), .int .i64 p.obj, .int .i64 p.a, .int .i64 p.b] 70)).alloc (.cells #[.int .i64 e.th, .int .u8 (e.op : Int), .int .i64 e.obj, .int .i64 e.a, .int .i64 e.b] 70)).cell? ⟨w.heap.size + 1, 2, none⟩ = some (.int .i64 e.obj) := cell_of_row _ _ 2 _ _ _ q2
  have y3 : ((w.alloc (.cells #[.int .i64 p.th, .int .u8 (p.op : Int), .int .i64 p.obj, .int .i64 p.a, .int .i64 p.b] 70)).alloc (.cells #[.int .i64 e.th, .int .u8 (e.op : Int), .int .i64 e.obj, .int .i64 e.a, .int .i64 e.b] 70)).cell? ⟨w.heap.size + 1, 3, none⟩ = some (.int .i64 e.a) := cell_of_row _ _ 3 _ _ _ q2
  have y4 : ((w.alloc (.cells #[.int .i64 p.th, .int .u8 (p.op : Int), .int .i64 p.obj, .int .i64 p.a, .int .i64 p.b] 70)).alloc (.cells #[.int .i64 e.th, .int .u8 (e.op : Int), .int .i64 e.obj, .int .i64 e.a, .int .i64 e.b] 70)).cell? ⟨w.heap.size + 1, 4, none⟩ = some (.int .i64 e.b) := cell_of_row _ _ 4 _ _ _ q2
  clear q1 q2
  go_enter Try.func49, Try.ntmps49
  go_wp2_with fail
  generalize ((w.alloc (.cells #[.int .i64 p.th, .int .u8 (p.op : Int), .int .i64 p.obj, .int .i64 p.a, .int .i64 p.b] 70)).alloc (.cells #[.int .i64 e.th, .int .u8 (e.op : Int), .int .i64 e.obj, .int .i64 e.a, .int .i64 e.b] 70)) = W2 at x0 y0 x1 y1 x2 y2 x3 y3 x4 y4 hB2 ⊢
  refine wp_region_held_drew (S := fun w' => Below W2.heap.size W2 w') (by kernel_rfl) ((Below.refl _ W2).drew) (fun hHeld => ?_)
  refine wpAnyH_take (i := 0) (v := ?_) rfl (by kernel_rfl) (by kernel_rfl) (by kernel_rfl) (fun _ _ _ h => h) (Or.inl ⟨by rfl, ?_⟩) hHeld ?_
  rotate_left
  · (intro w hSw; (try dsimp only at hSw); go_simp <;> rfl)
  simp only [Act.put, List.getElem_toArray, List.getElem_cons_zero, List.getElem_cons_succ, List.setIfInBounds_toArray, List.set_cons_zero, List.set_cons_succ]
  refine wpAnyH_take (i := 2) (v := ?_) rfl (by kernel_rfl) (by kernel_rfl) (by kernel_rfl) (fun _ _ _ h => h) (Or.inl ⟨by rfl, ?_⟩) hHeld ?_
  rotate_left
  · (intro w hSw; have z0 := cell_below hSw _ _ x0; have z1 := cell_below hSw _ _ x1; have z2 := cell_below hSw _ _ x2; have z3 := cell_below hSw _ _ x3; have z4 := cell_below hSw _ _ x4; go_simp <;> rfl)
  simp only [Act.put, List.getElem_toArray, List.getElem_cons_zero, List.getElem_cons_succ, List.setIfInBounds_toArray, List.set_cons_zero, List.set_cons_succ]
  refine wpAnyH_take (i := 3) (v := ?_) rfl (by kernel_rfl) (by kernel_rfl) (by kernel_rfl) (fun _ _ _ h => h) (Or.inl ⟨by rfl, ?_⟩) hHeld ?_
  rotate_left
  · (intro w hSw; have z0 := cell_below hSw _ _ y0; have z1 := cell_below hSw _ _ y1; have z2 := cell_below hSw _ _ y2; have z3 := cell_below hSw _ _ y3; have z4 := cell_below hSw _ _ y4; go_simp <;> rfl)
  simp only [Act.put, List.getElem_toArray, List.getElem_cons_zero, List.getElem_cons_succ, List.setIfInBounds_toArray, List.set_cons_zero, List.set_cons_succ]
  refine wpAnyH_ready (rs := [1]) (by kernel_rfl) (by simp) ?_
  refine AllReadyH.cons rfl (fun K hK => ?_) AllReadyH.nil
  go_simp
  refine (clip_any _ _ _ _ hcap).mono ?_
  rintro e w' ⟨rfl, rfl⟩
  dsimp only
  refine hK.out _ _ hHeld (fun hHeld => ?_)
  clear hK K
  try simp only [Act.put, List.getElem_toArray, List.getElem_cons_zero, List.getElem_cons_succ, List.setIfInBounds_toArray, List.set_cons_zero, List.set_cons_succ]
  refine wpAnyH_ready (rs := [4]) (by kernel_rfl) (by simp) ?_
  refine AllReadyH.cons rfl (fun K hK => ?_) AllReadyH.nil
  go_simp
  have hB3 := hB2.trans (hHeld.mono hB2.size)
  have hz := hB3.size
  refine (put_full (p := p) (hf.below hB3) hl hop).mono ?_
  rintro x w4 ⟨r, rfl, h1, h2, h3, h4⟩
  have hB4 := hB3.trans (h4.mono hz)
  have hB4' := hHeld.trans (h4.mono hHeld.size)
  clear hf
  dsimp only
  refine hK.out _ _ hB4' (fun hHeld => ?_)
  clear hK K
  try simp only [Act.put, List.getElem_toArray, List.getElem_cons_zero, List.getElem_cons_succ, List.setIfInBounds_toArray, List.set_cons_zero, List.set_cons_succ]
  refine wpAnyH_take (i := 5) (v := ?_) rfl (by kernel_rfl) (by kernel_rfl) (by kernel_rfl) (fun _ _ _ h => h) (Or.inl ⟨by rfl, ?_⟩) hHeld ?_
  rotate_left
  · (intro w hSw; (try dsimp only at hSw); go_simp <;> rfl)
  simp only [Act.put, List.getElem_toArray, List.getElem_cons_zero, List.getElem_cons_succ, List.setIfInBounds_toArray, List.set_cons_zero, List.set_cons_succ]
  refine wpAnyH_done (by kernel_rfl) ?_ _
  go_wp2_with fail
  go_ret
  have := h1.own (base := w.heap.size) fun b hb => Nat.le_trans hz (h3 b hb)
  rw [h2] at this
  exact ⟨_, rfl, this, hB4⟩
end Go.Proofs.Ytebpdlggkncliaa

/-
  A frame's body, and Frame.
-/
set_option linter.unusedVariables false
set_option linter.unusedSimpArgs false
namespace Go.Proofs.Ytebpdlggkncliaa
open Go.RowKit
open Go.Lib (byteCells byteCells_length byteCells_append uvarint)

theorem uint_nil' (x : Nat) (w : World) (hx : x < 18446744073709551616) :
    Calls Try.prog 95 #[.slice none 0 0, .int .u64 (x : Int)] w fun e w' =>
      ∃ v, e = .returned v ∧ Own w' w.heap.size 5 v (uvarint x) ∧ Below w.heap.size w w' := by
  have := uint_any none 0 0 x [] w (IsB.nil w) (by omega) hx
  simpa using this
theorem set5 {w : World} {g : Nat} {t : TypeId} {a0 a1 a2 a3 a4 : Value} (h : w.heap[g]? = some (.cells #[a0, a1, a2, a3, a4] t (0, 0))) (v0 v1 v2 v3 v4 : Value) :
    (((((w.setCell ⟨g, 0, none⟩ v0).setCell ⟨g, 1, none⟩ v1).setCell ⟨g, 2, none⟩ v2).setCell ⟨g, 3, none⟩ v3).setCell ⟨g, 4, none⟩ v4).heap[g]? = some (.cells #[v0, v1, v2, v3, v4] t (0, 0)) ∧
    Away (fun b => b = g) w (((((w.setCell ⟨g, 0, none⟩ v0).setCell ⟨g, 1, none⟩ v1).setCell ⟨g, 2, none⟩ v2).setCell ⟨g, 3, none⟩ v3).setCell ⟨g, 4, none⟩ v4) := by
  refine ⟨?_, ((((Away.setCell w ⟨g, 0, none⟩ v0).trans (Away.setCell _ ⟨g, 1, none⟩ v1) fun b e => .inl e).trans (Away.setCell _ ⟨g, 2, none⟩ v2) fun b e => .inl e).trans (Away.setCell _ ⟨g, 3, none⟩ v3) fun b e => .inl e).trans (Away.setCell _ ⟨g, 4, none⟩ v4) fun b e => .inl e⟩
  rw [set_blk (set_blk (set_blk (set_blk (set_blk h 0 v0) 1 v1) 2 v2) 3 v3) 4 v4]
  rfl
theorem body_short {es : List Ev} (h : es.length ≤ 4096) (j : Nat) : (uvarint es.length ++ encEvs Ev.zero (es.take j)).length ≤ 800000 := by
  have h1 := encEvs_most (es.take j) Ev.zero
  have h2 := Lib.uvarint_length64 (x := es.length) (by omega)
  rw [List.length_append]
  rw [List.length_take] at h1
  omega
theorem take_snoc {es : List Ev} {j : Nat} {x : Ev} (hx : es[j]? = some x) : es.take (j + 1) = es.take j ++ [x] := by
  obtain ⟨hj, ex⟩ := List.getElem?_eq_some_iff.1 hx
  rw [List.take_succ_eq_append_getElem hj, ex]

set_option maxRecDepth 100000 in
set_option maxHeartbeats 2000000 in
theorem body_any (A : Option Addr) (n c : Nat) (es : List Ev) (w : World) (h : IsEv w A n c es) (hn : n ≤ 4096) (hok : ∀ x ∈ es, x.ok) :
    Calls Try.prog 94 #[.slice A n c] w fun e w' => ∃ v, e = .returned v ∧ Own w' w.heap.size 5 v (bodyOf es) ∧ Below w.heap.size w w' := by
  have hlen := h.len
  have hwr : IntKind.u64.wrap (n : Int) = (n : Int) := by rw [IntKind.wrap_u64]; omega
  have HL := Lib.hid hlen
  have HSH := fun j => Lib.hid (body_short (es := es) (by omega) j)
  go_enter Try.func94, Try.ntmps94
  go_wp2_with fail
  refine (uint_nil' n w (by omega)).mono ?_
  rintro e w1 ⟨v, rfl, ho, hb1⟩
  obtain ⟨r0, rfl, hc0, hr0⟩ := row_of_own ho 0 rfl
  have hg0 : ∀ b, r0.g = some b → w.heap.size ≤ b := fun b hb => (World.ownsRow.lt ho b (by rw [Raw.own, hb])).1
  have hz1 := hb1.size
  clear ho hlen
  go_wp2_with fail
  have hab : (w1.alloc (.cells #[.int .i64 0, .int .u8 0, .int .i64 0, .int .i64 0, .int .i64 0] 70)).heap[w1.heap.size]? = some (.cells #[.int .i64 0, .int .u8 0, .int .i64 0, .int .i64 0, .int .i64 0] 70 (0, 0)) := heap_alloc_new _ _
  have hb2 : Below w1.heap.size w1 (w1.alloc (.cells #[.int .i64 0, .int .u8 0, .int .i64 0, .int .i64 0, .int .i64 0] 70)) := (Below.refl _ _).alloc (Nat.le_refl _) _
  have hr2 := hr0.away (Away.of_new hb2 (fun _ => False)) fun _ _ f => f
  have hB2 := bstep0 hb1 hb2
  clear hb1 hb2 hr0
  go_loopw [3, 13] (fun v q wr => ∃ (j : Nat) (r : Raw) (p : Ev), q = .int .i64 (j : Int) ∧ j ≤ n ∧ v = r.sl ∧ FRow wr r ∧ Hid (r.c = (uvarint es.length ++ encEvs Ev.zero (es.take j), 0)) ∧ Hid (p = lastEv Ev.zero (es.take j)) ∧
    wr.heap[w1.heap.size]? = some (.cells #[.int .i64 p.th, .int .u8 (p.op : Int), .int .i64 p.obj, .int .i64 p.a, .int .i64 p.b] 70 (0, 0)) ∧ (∀ b, r.g = some b → w.heap.size ≤ b) ∧ Below w.heap.size w wr) (fun _ q _ => n - (intOf q).toNat)
  case atStart => exact ⟨0, r0, Ev.zero, rfl, by omega, rfl, hr2, by show _ = _; rw [hc0, List.take_zero, HL.out]; simp [encEvs], by show _ = _; rw [List.take_zero]; rfl, hab, hg0, hB2⟩
  case round =>
    clear hab hr2 hB2 hg0 hc0
    obtain ⟨j, r, p, rfl, hj, rfl, hr, hc, hp, hab, hg, hB⟩ := hrel
    by_cases hjn : j < n
    · obtain ⟨b, o, x, rfl, hx, c0, c1, c2, c3, c4⟩ := (h.below hB).at_ hjn
      have hxo := (hok x (List.mem_of_getElem? hx)).op
      have hd : decide ((j : Int) < (n : Int)) = true := decide_eq_true (by omega)
      have HX := Lib.hid hx
      have a0 : wr.cell? ⟨w1.heap.size, 0, none⟩ = some (.int .i64 p.th) := cell_of_row _ _ 0 _ _ _ hab
      have a1 : wr.cell? ⟨w1.heap.size, 1, none⟩ = some (.int .u8 (p.op : Int)) := cell_of_row _ _ 1 _ _ _ hab
      have a2 : wr.cell? ⟨w1.heap.size, 2, none⟩ = some (.int .i64 p.obj) := cell_of_row _ _ 2 _ _ _ hab
      have a3 : wr.cell? ⟨w1.heap.size, 3, none⟩ = some (.int .i64 p.a) := cell_of_row _ _ 3 _ _ _ hab
      have a4 : wr.cell? ⟨w1.heap.size, 4, none⟩ = some (.int .i64 p.b) := cell_of_row _ _ 4 _ _ _ hab
      have hla := (Array.getElem?_eq_some_iff.1 hab).1
      have HAB := Lib.hid hab
      have hB' := Lib.hid hB
      have hzr := hB.size
      clear h hx hab hB
      go_wp2_with fail
      have hbx : Below wr.heap.size wr (wr.alloc (.cells #[.int .i64 x.th, .int .u8 (x.op : Int), .int .i64 x.obj, .int .i64 x.a, .int .i64 x.b] 70)) := (Below.refl _ _).alloc (Nat.le_refl _) _
      have hxb : (wr.alloc (.cells #[.int .i64 x.th, .int .u8 (x.op : Int), .int .i64 x.obj, .int .i64 x.a, .int .i64 x.b] 70)).heap[wr.heap.size]? = some (.cells #[.int .i64 x.th, .int .u8 (x.op : Int), .int .i64 x.obj, .int .i64 x.a, .int .i64 x.b] 70 (0, 0)) := heap_alloc_new _ _
      have hab' := (hbx.block _ hla).trans HAB.out
      have hrx := hr.away (Away.of_new hbx (fun _ => False)) fun _ _ f => f
      have hn1 : ∀ b, r.g = some b → b ≠ w1.heap.size ∧ b ≠ wr.heap.size := fun b hb => by
        obtain ⟨cs, hcs⟩ := row_type hrx hb
        refine ⟨?_, ?_⟩ <;> rintro rfl
        · rw [hab'] at hcs; simp at hcs
        · rw [hxb] at hcs; simp at hcs
      refine (put_row (e := x) (p := p) hrx (by rw [hc.out]) (by rw [hc.out]; exact (HSH j).out) hxo).mono ?_
      rintro e w3 ⟨r', rfl, hr3, hc3, hg3, hA3⟩
      have hab3 := (hA3.block _ (Array.getElem?_eq_some_iff.1 hab').1 fun e => (hn1 _ e).1 rfl).trans hab'
      have hxb3 := (hA3.block _ (Array.getElem?_eq_some_iff.1 hxb).1 fun e => (hn1 _ e).2 rfl).trans hxb
      have y0 : w3.cell? ⟨wr.heap.size, 0, none⟩ = some (.int .i64 x.th) := cell_of_row _ _ 0 _ _ _ hxb3
      have y1 : w3.cell? ⟨wr.heap.size, 1, none⟩ = some (.int .u8 (x.op : Int)) := cell_of_row _ _ 1 _ _ _ hxb3
      have y2 : w3.cell? ⟨wr.heap.size, 2, none⟩ = some (.int .i64 x.obj) := cell_of_row _ _ 2 _ _ _ hxb3
      have y3 : w3.cell? ⟨wr.heap.size, 3, none⟩ = some (.int .i64 x.a) := cell_of_row _ _ 3 _ _ _ hxb3
      have y4 : w3.cell? ⟨wr.heap.size, 4, none⟩ = some (.int .i64 x.b) := cell_of_row _ _ 4 _ _ _ hxb3
      have z0 : w3.cell? ⟨w1.heap.size, 0, none⟩ = some (.int .i64 p.th) := cell_of_row _ _ 0 _ _ _ hab3
      have z1 : w3.cell? ⟨w1.heap.size, 1, none⟩ = some (.int .u8 (p.op : Int)) := cell_of_row _ _ 1 _ _ _ hab3
      have z2 : w3.cell? ⟨w1.heap.size, 2, none⟩ = some (.int .i64 p.obj) := cell_of_row _ _ 2 _ _ _ hab3
      have z3 : w3.cell? ⟨w1.heap.size, 3, none⟩ = some (.int .i64 p.a) := cell_of_row _ _ 3 _ _ _ hab3
      have z4 : w3.cell? ⟨w1.heap.size, 4, none⟩ = some (.int .i64 p.b) := cell_of_row _ _ 4 _ _ _ hab3
      have zf0 := free_of_row hab3 0
      have zf1 := free_of_row hab3 1
      have zf2 := free_of_row hab3 2
      have zf3 := free_of_row hab3 3
      have zf4 := free_of_row hab3 4
      have hne : wr.heap.size ≠ w1.heap.size := by omega
      have HAB3 := Lib.hid hab3
      have hB3 : Below w.heap.size w w3 := (hB'.out.trans (hbx.mono hzr)).trans (hA3.below (by simp; omega) fun b hb => hg b hb)
      clear a0 a1 a2 a3 a4 c0 c1 c2 c3 c4 hab' hxb hab3 hxb3 hbx hrx
      go_wp2_with fail
      obtain ⟨hs5, hA5⟩ := set5 HAB3.out (.int .i64 x.th) (.int .u8 (x.op : Int)) (.int .i64 x.obj) (.int .i64 x.a) (.int .i64 x.b)
      have hrn : ∀ b, r'.g = some b → b ≠ w1.heap.size := fun b hb => by
        obtain ⟨cs, hcs⟩ := row_type hr3 hb
        rintro rfl
        rw [HAB3.out] at hcs; simp at hcs
      have hr5 := hr3.away hA5 hrn
      have hB5 := hB3.trans (hA5.below (B := w.heap.size) hB3.size fun b hb => by subst hb; exact hz1)
      have hg5 : ∀ b, r'.g = some b → w.heap.size ≤ b := fun b hb => by
        rcases hg3 b hb with h' | h'
        · exact hg b h'
        · have : w.heap.size ≤ (wr.alloc (.cells #[.int .i64 x.th, .int .u8 (x.op : Int), .int .i64 x.obj, .int .i64 x.a, .int .i64 x.b] 70)).heap.size := by simp; omega
          exact Nat.le_trans this h'
      have hc5 : Hid (r'.c = (uvarint es.length ++ encEvs Ev.zero (es.take (j + 1)), 0)) := by
        show _ = _
        rw [hc3, hc.out, take_snoc HX.out, encEvs_snoc, ← List.append_assoc, hp.out]
      have hp5 : Hid (x = lastEv Ev.zero (es.take (j + 1))) := by
        show _ = _
        rw [take_snoc HX.out, lastEv_snoc]
      clear y0 y1 y2 y3 y4 z0 z1 z2 z3 z4 zf0 zf1 zf2 zf3 zf4 hne hc3 hA5 hr3 hB3
      go_roundw
      case rel => exact ⟨j + 1, r', x, by go_num, by omega, rfl, hr5, hc5, hp5, hs5, hg5, hB5⟩
      case measure => simp [intOf]; omega
    · obtain rfl : j = n := by omega
      have hd : decide ((j : Int) < (j : Int)) = false := by simp
      have hown := hr.own hg
      rw [hc.out, List.take_of_length_le (by rw [HL.out]; exact Nat.le_refl _)] at hown
      clear h hc hp hab
      go_wp2_with fail
      go_ret
      exact ⟨_, rfl, hown, hB⟩

set_option maxRecDepth 100000 in
set_option maxHeartbeats 1000000 in
theorem Frame_any (A : Option Addr) (n c : Nat) (es : List Ev) (w : World) (h : IsEv w A n c es) (h1 : 1 ≤ n) (hn : n ≤ 4096) (hok : ∀ x ∈ es, x.ok) :
    Calls Try.prog 44 #[.slice A n c] w fun e w' => ∃ v, e = .returned (.tuple #[v, .int .i64 0]) ∧ Own w' w.heap.size 5 v (frameOf es) ∧ Below w.heap.size w w' := by
  have hd1 : ((n : Int) == 0) = false := beq_eq_false_iff_ne.2 (by omega)
  have hd2 : decide ((4096 : Int) < (n : Int)) = false := decide_eq_false (by omega)
  have hbm := bodyOf_most (es := es) (by rw [h.len]; exact hn)
  obtain ⟨i0, hi, hz0, hz1, hz2⟩ := info_parts infoByte
  have HB := Lib.hid (body_any A n c es w h hn hok)
  clear h hok
  go_enter Try.func44, Try.ntmps44
  go_wp2_with fail
  refine HB.out.mono ?_
  rintro e w1 ⟨v, rfl, ho, hb1⟩
  obtain ⟨Ab, m, cb, rfl, hI⟩ := own_slice ho
  have hm := hI.len
  have hwr : IntKind.u64.wrap (m : Int) = (m : Int) := by rw [IntKind.wrap_u64]; omega
  have hul := Lib.uvarint_length64 (x := m) (by omega)
  have HM := Lib.hid hm
  clear ho HB
  go_wp2_with fail
  refine (uint_nil' m _ (by omega)).mono ?_
  rintro e w2 ⟨v2, rfl, ho2, hb2⟩
  have hI2 := hI.below hb2
  have hB2 := bstep0 hb1 hb2
  have hz2' := hb2.size
  have hz1' := hb1.size
  clear hI hb1
  go_wp2_with fail
  refine (seal_any Ab m cb (bodyOf es) _ hI2 (by omega)).mono ?_
  rintro e w3 ⟨v3, rfl, ho3, hb3⟩
  have hB3 := bstep0 hB2 hb3
  have ho2' := (ho2.below hb3).mono (base' := w.heap.size) hz1'
  obtain ⟨As, ms, cs, rfl, hIs⟩ := own_slice ho3
  have hms := hIs.len
  rw [List.length_append, sumBytes_length] at hms
  clear ho2 ho3 hb2 hb3 hB2 hI2
  go_wp2_with (at_builtin; refine wpList_putAny _ rfl _ _ 26 rfl 5 i0 Try.underlying26 hi hz0 hz1 hz2 w.heap.size _ _ rfl ho2' As ms cs _ rfl hIs (by omega) hB3.size ?_; rintro v4 w4 ho4 hb4)
  go_ret2
  refine ⟨v4, rfl, ?_, hB3.trans hb4⟩
  unfold frameOf sealed
  rw [HM.out]
  exact ho4
theorem Frame_none (A : Option Addr) (c : Nat) (w : World) :
    Calls Try.prog 44 #[.slice A 0 c] w fun e w' => e = .returned (.tuple #[.slice none 0 0, .int .i64 2]) ∧ w = w' := by
  go_enter Try.func44, Try.ntmps44
  go_wp2_with fail
  go_ret2
  exact ⟨rfl, rfl⟩
theorem Frame_long (A : Option Addr) (n c : Nat) (w : World) (hn : 4096 < n) :
    Calls Try.prog 44 #[.slice A n c] w fun e w' => e = .returned (.tuple #[.slice none 0 0, .int .i64 3]) ∧ w = w' := by
  have hd1 : ((n : Int) == 0) = false := beq_eq_false_iff_ne.2 (by omega)
  have hd2 : decide ((4096 : Int) < (n : Int)) = true := decide_eq_true (by omega)
  go_enter Try.func44, Try.ntmps44
  go_wp2_with fail
  go_ret2
  exact ⟨rfl, rfl⟩
end Go.Proofs.Ytebpdlggkncliaa

/-
  Get's closure: one more number.
-/
set_option linter.unusedVariables false
set_option linter.unusedSimpArgs false
namespace Go.Proofs.Ytebpdlggkncliaa
open Go.RowKit
open Go.Lib (byteCells byteCells_length byteCells_append uvarint)

theorem stp_le {l : List UInt8} {s : Nat × Nat} (h : s.1 ≤ l.length) : (stp l s).1 ≤ l.length := by
  unfold stp
  split
  · have := getU_le (l.drop s.1)
    rw [List.length_drop] at this
    unfold nextU
    dsimp only
    split <;> omega
  · exact h
set_option maxRecDepth 100000 in
set_option maxHeartbeats 1000000 in
theorem cl_get {w0 w : World} {fb bb tb : Nat} {A : Option Addr} {n c : Nat} {l : List UInt8} {s : Nat × Nat} (hI : IsB w0 A n c l) (hB : Below w0.heap.size w0 w) (hn : n ≤ 1000000) (hk : s.1 ≤ n)
    (hf : w.heap[fb]? = some (.cells #[.int .i64 (s.2 : Int)] 23 (0, 0))) (hb : w.heap[bb]? = some (.cells #[.slice A n c] 26 (0, 0))) (ht : w.heap[tb]? = some (.cells #[.int .i64 (s.1 : Int)] 3 (0, 0))) (was : Int) (z' : Value) :
    Calls Try.prog 90 #[.int .i64 was, z', .pointer (some ⟨fb, 0, none⟩), .pointer (some ⟨bb, 0, none⟩), .pointer (some ⟨tb, 0, none⟩)] w fun e w' => e = .returned (.int .i64 (stv l s was)) ∧
      w'.heap[fb]? = some (.cells #[.int .i64 ((stp l s).2 : Int)] 23 (0, 0)) ∧ w'.heap[tb]? = some (.cells #[.int .i64 ((stp l s).1 : Int)] 3 (0, 0)) ∧ Away (fun b => b = fb ∨ b = tb) w w' := by
  obtain ⟨k, f⟩ := s
  dsimp only at hk hf ht ⊢
  have f0 : w.cell? ⟨fb, 0, none⟩ = some (.int .i64 (f : Int)) := cell_of_row _ _ 0 _ _ _ hf
  by_cases h0 : f = 0
  · subst h0
    have b0 : w.cell? ⟨bb, 0, none⟩ = some (.slice A n c) := cell_of_row _ _ 0 _ _ _ hb
    have t0 : w.cell? ⟨tb, 0, none⟩ = some (.int .i64 (k : Int)) := cell_of_row _ _ 0 _ _ _ ht
    have hne : fb ≠ tb := by rintro rfl; rw [hf] at ht; simp at ht
    have hne' : tb ≠ fb := hne.symm
    have ff := free_of_row hf 0
    have tf := free_of_row ht 0
    have HG := Lib.hid (getInt_any A n c k l w (hI.below hB) (by omega) hk)
    have hst : stp l (k, 0) = (nextU k (getU (l.drop k)), (getU (l.drop k)).2.2) := by unfold stp; rw [if_pos rfl]
    have hsv : stv l (k, 0) was = wrap64 (was + Lib.unzigzag (getU (l.drop k)).1) := by unfold stv; rw [if_pos rfl]
    unfold ansI at HG
    rw [hst, hsv]
    dsimp only
    generalize nextU k (getU (l.drop k)) = k' at HG
    generalize Lib.unzigzag (getU (l.drop k)).1 = m at HG
    generalize (getU (l.drop k)).2.2 = f' at HG
    have HF := Lib.hid hf
    have HT := Lib.hid ht
    clear hf hb ht hI hst hsv
    go_enter Try.func90, Try.ntmps90
    go_wp2_with fail
    refine HG.out.mono ?_
    rintro e w' ⟨rfl, rfl⟩
    clear HG
    go_wp2_with fail
    go_ret
    have hA1 := Away.setCell w ⟨tb, 0, none⟩ (.int .i64 (k' : Int))
    have hA2 := Away.setCell (w.setCell ⟨tb, 0, none⟩ (.int .i64 (k' : Int))) ⟨fb, 0, none⟩ (.int .i64 (f' : Int))
    have q1 : (w.setCell ⟨tb, 0, none⟩ (.int .i64 (k' : Int))).heap[tb]? = some (.cells #[.int .i64 (k' : Int)] 3 (0, 0)) := by rw [set_blk HT.out 0]; rfl
    have q2 := (hA1.block fb (Array.getElem?_eq_some_iff.1 HF.out).1 hne).trans HF.out
    refine ⟨?_, ?_, (hA2.block tb (Array.getElem?_eq_some_iff.1 q1).1 hne').trans q1, (hA1.mono (F' := fun b => b = fb ∨ b = tb) fun b _ e => .inr e).trans hA2 ?_⟩
    · rfl
    · rw [set_blk q2 0]; rfl
    · exact fun b e => .inl (.inl e)
  · have hd : ((f : Int) != 0) = true := by simp; omega
    have hst : stp l (k, f) = (k, f) := by unfold stp; rw [if_neg h0]
    have hsv : stv l (k, f) was = 0 := by unfold stv; rw [if_neg h0]
    rw [hst, hsv]
    have HF := Lib.hid hf
    have HT := Lib.hid ht
    clear hf hb ht hI hst hsv h0
    go_enter Try.func90, Try.ntmps90
    go_wp2_with fail
    go_ret
    exact ⟨rfl, HF.out, HT.out, Away.refl _ _⟩
end Go.Proofs.Ytebpdlggkncliaa
