/-
  put and Put: an event's bytes beside the one ahead, put behind others.
-/
import Derived.Test.YtiockkphciadeaaEvEach
set_option linter.unusedVariables false
set_option linter.unusedSimpArgs false
namespace Go.Proofs.Ytiockkphciadeaa
open Go.RowKit
open Go.Lib (byteCells byteCells_length byteCells_append uvarint)

theorem byteLow' {n : Nat} (h : n < 256) : ((n.toUInt8).toNat : Int) = (n : Int) := by rw [byte_toNat h]
/-- what the first append of put makes -/
def Puts (w : World) (F : Nat → Prop) (l : List UInt8) (A : Option Addr) (n c op : Nat) : Prop :=
  ∀ W, Below w.heap.size w W → ∀ B, IsB W (some B) 1 1 [op.toUInt8] → ∃ v' w', (Builtin.append_ #[26, 26] 26 #[.slice A n c, .slice (some B) 1 1]).run Try.prog W = .ok v' w' ∧
    ∃ r : Raw, v' = r.sl ∧ FRow w' r ∧ r.c = (l ++ [op.toUInt8], 0) ∧ (∀ b, r.g = some b → F b ∨ W.heap.size ≤ b) ∧ Away F W w'
theorem Src.cells1 {w : World} {A : Option Addr} {l : List UInt8} (h : Src w A l) {b : Addr} (hb : A = some b) : ∀ j u, l[j]? = some u → w.cell? (b.add j) = some (.int .u8 (u.toNat : Int)) := by
  intro j u hj
  have := h.cells b hb j (.int .u8 (u.toNat : Int)) (by rw [byteCells, List.getElem?_map, hj]; rfl)
  exact this
theorem allocs4 (w : World) (o1 o2 o3 o4 : Obj) : Below w.heap.size w ((((w.alloc o1).alloc o2).alloc o3).alloc o4) ∧ ((((w.alloc o1).alloc o2).alloc o3).alloc o4).heap[w.heap.size]? = some o1 ∧
    ((((w.alloc o1).alloc o2).alloc o3).alloc o4).heap[w.heap.size + 1]? = some o2 ∧ ((((w.alloc o1).alloc o2).alloc o3).alloc o4).heap[w.heap.size + 1 + 1]? = some o3 ∧
    ((((w.alloc o1).alloc o2).alloc o3).alloc o4).heap[w.heap.size + 1 + 1 + 1]? = some o4 ∧ ((((w.alloc o1).alloc o2).alloc o3).alloc o4).heap.size = w.heap.size + 4 := by
  refine ⟨(((((Below.refl _ w).alloc (Nat.le_refl _) _).alloc (by simp) _).alloc (by simp; omega) _).alloc (by simp; omega) _), ?_, ?_, ?_, ?_, ?_⟩
  · rw [heap_alloc_old _ _ (by simp; omega), heap_alloc_old _ _ (by simp; omega), heap_alloc_old _ _ (by simp)]
    exact heap_alloc_new w o1
  · rw [heap_alloc_old _ _ (by simp), heap_alloc_old _ _ (by simp)]
    have := heap_alloc_new (w.alloc o1) o2
    simpa using this
  · rw [heap_alloc_old _ _ (by simp)]
    have := heap_alloc_new ((w.alloc o1).alloc o2) o3
    simpa using this
  · have := heap_alloc_new (((w.alloc o1).alloc o2).alloc o3) o4
    simpa using this
  · simp
set_option maxRecDepth 100000 in
set_option maxHeartbeats 2000000 in
theorem put_from {w : World} {F : Nat → Prop} {l : List UInt8} {A : Option Addr} {n c : Nat} {e p : Ev} (hF : ∀ b, F b → b < w.heap.size) (hl : l.length ≤ 800000) (hop : e.op < 256) (hap : Puts w F l A n c e.op) :
    Calls Try.prog 70 #[.slice A n c, .agg #[.int .i64 p.th, .int .u8 (p.op : Int), .int .i64 p.obj, .int .i64 p.a, .int .i64 p.b], .agg #[.int .i64 e.th, .int .u8 (e.op : Int), .int .i64 e.obj, .int .i64 e.a, .int .i64 e.b]] w fun x w' =>
      ∃ r : Raw, x = .returned r.sl ∧ FRow w' r ∧ r.c = (l ++ encEv p e, 0) ∧ (∀ b, r.g = some b → F b ∨ w.heap.size ≤ b) ∧ Away F w w' := by
  have HAP := Lib.hid hap
  have HF := Lib.hid hF
  have hw8 : IntKind.u8.wrap (e.op : Int) = (e.op : Int) := by rw [IntKind.wrap_u8']; omega
  clear hap hF
  obtain ⟨hB4, k0, k1, k2, k3, kz⟩ := allocs4 w (.cells #[.slice A n c] 26) (.cells #[.int .i64 p.th, .int .u8 (p.op : Int), .int .i64 p.obj, .int .i64 p.a, .int .i64 p.b] 54) (.cells #[.int .i64 e.th, .int .u8 (e.op : Int), .int .i64 e.obj, .int .i64 e.a, .int .i64 e.b] 54) (.cells #[.int .u8 (e.op : Int)] 5)
  generalize hW4 : (((w.alloc (.cells #[.slice A n c] 26)).alloc (.cells #[.int .i64 p.th, .int .u8 (p.op : Int), .int .i64 p.obj, .int .i64 p.a, .int .i64 p.b] 54)).alloc (.cells #[.int .i64 e.th, .int .u8 (e.op : Int), .int .i64 e.obj, .int .i64 e.a, .int .i64 e.b] 54)).alloc (.cells #[.int .u8 (e.op : Int)] 5) = W4 at hB4 k0 k1 k2 k3 kz
  have hI : IsB W4 (some ⟨w.heap.size + 1 + 1 + 1, 0, none⟩) 1 1 [e.op.toUInt8] := by
    refine ⟨rfl, Nat.le_refl _, (fun e => by cases e), .inr ⟨_, 0, rfl, fun j u hj => ?_⟩⟩
    match j, hj with
    | 0, hj => simp at hj; subst hj; rw [byteLow' hop]; exact cell_of_row _ _ 0 _ _ _ k3
  obtain ⟨v', w1, hr, r, rfl, hrow, hrc, hrg, hag⟩ := HAP.out W4 hB4 _ hI
  obtain ⟨A', m', c', hA'⟩ : ∃ A m c, r.sl = .slice A m c := ⟨_, _, _, rfl⟩
  rw [hA'] at hr
  have hag' : Away F w w1 := (Away.of_new hB4 F).trans hag fun b h => .inl h
  have nf : ∀ b, w.heap.size ≤ b → ¬ F b := fun b hb h => by have := HF.out b h; omega
  have q0 := (hag.block (w.heap.size) (by omega) (nf _ (by omega))).trans k0
  have q1 := (hag.block (w.heap.size + 1) (by omega) (nf _ (by omega))).trans k1
  have q2 := (hag.block (w.heap.size + 1 + 1) (by omega) (nf _ (by omega))).trans k2
  have z0 := free_of_row q0 0
  have y0 : w1.cell? ⟨w.heap.size, 0, none⟩ = some (.slice A n c) := cell_of_row w1 _ 0 _ _ _ q0
  have hS := Away.setCell w1 ⟨w.heap.size, 0, none⟩ (.slice A' m' c')
  have s0 : (w1.setCell ⟨w.heap.size, 0, none⟩ (.slice A' m' c')).heap[w.heap.size]? = some (.cells #[r.sl] 26 (0, 0)) := by rw [set_blk q0 0, hA']; rfl
  have s1 := (hS.block (w.heap.size + 1) (Array.getElem?_eq_some_iff.1 q1).1 (by simp)).trans q1
  have s2 := (hS.block (w.heap.size + 1 + 1) (Array.getElem?_eq_some_iff.1 q2).1 (by simp; omega)).trans q2
  have hrn : ∀ b, r.g = some b → b ≠ w.heap.size := fun b hb h => by
    rcases hrg b hb with h' | h'
    · have := HF.out b h'; omega
    · omega
  have hrow2 := hrow.away hS hrn
  have x1 : (w1.setCell ⟨w.heap.size, 0, none⟩ (.slice A' m' c')).cell? ⟨w.heap.size + 1, 0, none⟩ = some (.int .i64 p.th) := cell_of_row _ _ 0 _ _ _ s1
  have x2 : (w1.setCell ⟨w.heap.size, 0, none⟩ (.slice A' m' c')).cell? ⟨w.heap.size + 1, 1, none⟩ = some (.int .u8 (p.op : Int)) := cell_of_row _ _ 1 _ _ _ s1
  have x3 : (w1.setCell ⟨w.heap.size, 0, none⟩ (.slice A' m' c')).cell? ⟨w.heap.size + 1, 2, none⟩ = some (.int .i64 p.obj) := cell_of_row _ _ 2 _ _ _ s1
  have x4 : (w1.setCell ⟨w.heap.size, 0, none⟩ (.slice A' m' c')).cell? ⟨w.heap.size + 1, 3, none⟩ = some (.int .i64 p.a) := cell_of_row _ _ 3 _ _ _ s1
  have x5 : (w1.setCell ⟨w.heap.size, 0, none⟩ (.slice A' m' c')).cell? ⟨w.heap.size + 1, 4, none⟩ = some (.int .i64 p.b) := cell_of_row _ _ 4 _ _ _ s1
  have HE := Lib.hid (each_put' (p := p) (l := l ++ [e.op.toUInt8]) (s := 0) s0 s2 hrow2 (by rw [List.length_append]; simp; omega) hrc rfl)
  have HK := Lib.hid hag'
  have HR := Lib.hid hrg
  have HS := Lib.hid hS
  have KZ := Lib.hid kz
  clear hA' q0 q1 q2 s0 s1 s2 k0 k1 k2 k3 hag hag' hS hrow hrow2 hrn nf hrc hrg hI hB4 kz
  go_enter Try.func70, Try.ntmps70
  go_wp2_with (at_builtin; (try rw [hW4]); refine wpList_run _ rfl (.tmp 7) (.tmp 10) 26 rfl (R := fun v' w' => v' = .slice A' m' c' ∧ w' = w1) ⟨_, _, hr, rfl, rfl⟩ ?_; rintro v' w' ⟨rfl, rfl⟩)
  refine HE.out.mono ?_
  rintro x w5 ⟨rfl, r', ho5, hr5, hc5, hg5, hA5⟩
  have x6 : w5.cell? ⟨w.heap.size, 0, none⟩ = some r'.sl := cell_of_row _ _ 0 _ _ _ ho5
  have HC := Lib.hid hc5
  clear hc5 ho5 HE
  go_wp2_with fail
  go_ret
  have hz := HK.out.size
  have hz4 := KZ.out
  refine ⟨r', rfl, hr5, by rw [HC.out, List.append_assoc]; rfl, ?_, ?_⟩
  · intro b hb
    rcases hg5 with h | ⟨b', hb', hz'⟩
    · rw [h] at hb
      rcases HR.out b hb with h | h
      · exact .inl h
      · exact .inr (by omega)
    · rw [hb] at hb'; injection hb' with hb'; exact .inr (by have := HS.out.size; omega)
  · refine (HK.out.trans HS.out fun b h => .inr (by omega)).trans hA5 fun b h => ?_
    rcases h with h | h | h
    · exact .inr (by omega)
    · exact .inr (by omega)
    · rcases HR.out b h with h | h
      · exact .inl h
      · exact .inr (by omega)
theorem puts_row {w : World} {r : Raw} (hr : FRow w r) (hs : r.c.2 = 0) (hl : r.c.1.length ≤ 800000) {A : Option Addr} {n c : Nat} (hA : r.sl = .slice A n c) (op : Nat) : Puts w (fun b => r.g = some b) r.c.1 A n c op := by
  intro W hB B hI
  have hr' := hr.away (Away.of_new hB (fun _ => False)) fun _ _ f => f
  obtain ⟨r', w', hrun, hc, hrow, hgr, hg⟩ := row_append hr' 26 hI (by omega)
  rw [hA] at hrun
  refine ⟨_, w', hrun, r', rfl, hrow, by rw [hc, hs], fun b hb => ?_, Away.of_grown hgr⟩
  rcases hg with h | h
  · exact .inl (by rw [← h]; exact hb)
  · rw [hb] at h; injection h with h; exact .inr (by omega)
theorem puts_full {w : World} {A : Option Addr} {n : Nat} {l : List UInt8} (h : IsB w A n n l) (hl : n ≤ 800000) (op : Nat) : Puts w (fun _ => False) l A n n op := by
  intro W hB B hI
  obtain ⟨i0, h2, h3, h4, h5⟩ := info_parts infoU8
  have hf : Full W W.heap.size 5 (.slice A n n) l := (h.below hB).full
  obtain ⟨v', w', hrun, hown, hb⟩ := run_put (P := Try.prog) W 26 26 5 i0 Try.underlying26 h2 h3 h4 h5 W.heap.size _ l hf B 1 1 [op.toUInt8] rfl (by decide) (hI.src.cells1 rfl) (by rw [h.len]; omega) (Nat.le_refl _)
  obtain ⟨r, rfl, hc, hrow⟩ := row_of_own hown 0 rfl
  have hge : ∀ b, r.g = some b → W.heap.size ≤ b := fun b hb => (World.ownsRow.lt hown b (by rw [Raw.own, hb])).1
  exact ⟨_, w', hrun, r, rfl, hrow, hc, fun b hb => .inr (hge b hb), Away.of_new hb _⟩
/-- put, onto what the call owns -/
theorem put_row {w : World} {r : Raw} {e p : Ev} (hr : FRow w r) (hs : r.c.2 = 0) (hl : r.c.1.length ≤ 800000) (hop : e.op < 256) :
    Calls Try.prog 70 #[r.sl, .agg #[.int .i64 p.th, .int .u8 (p.op : Int), .int .i64 p.obj, .int .i64 p.a, .int .i64 p.b], .agg #[.int .i64 e.th, .int .u8 (e.op : Int), .int .i64 e.obj, .int .i64 e.a, .int .i64 e.b]] w fun x w' =>
      ∃ r' : Raw, x = .returned r'.sl ∧ FRow w' r' ∧ r'.c = (r.c.1 ++ encEv p e, 0) ∧ (∀ b, r'.g = some b → r.g = some b ∨ w.heap.size ≤ b) ∧ Away (fun b => r.g = some b) w w' := by
  obtain ⟨A, n, c, hA⟩ : ∃ A m c, r.sl = .slice A m c := ⟨_, _, _, rfl⟩
  have := put_from (p := p) (fun b hb => hr.lt hb) hl hop (puts_row hr hs hl hA e.op)
  rwa [← hA] at this
/-- put, onto what is full -/
theorem put_full {w : World} {A : Option Addr} {n : Nat} {l : List UInt8} {e p : Ev} (h : IsB w A n n l) (hl : n ≤ 800000) (hop : e.op < 256) :
    Calls Try.prog 70 #[.slice A n n, .agg #[.int .i64 p.th, .int .u8 (p.op : Int), .int .i64 p.obj, .int .i64 p.a, .int .i64 p.b], .agg #[.int .i64 e.th, .int .u8 (e.op : Int), .int .i64 e.obj, .int .i64 e.a, .int .i64 e.b]] w fun x w' =>
      ∃ r' : Raw, x = .returned r'.sl ∧ FRow w' r' ∧ r'.c = (l ++ encEv p e, 0) ∧ (∀ b, r'.g = some b → w.heap.size ≤ b) ∧ Below w.heap.size w w' := by
  refine (put_from (p := p) (F := fun _ => False) (fun b hb => hb.elim) (by rw [h.len]; exact hl) hop (puts_full h hl e.op)).mono ?_
  rintro x w' ⟨r, rfl, h1, h2, h3, h4⟩
  exact ⟨r, rfl, h1, h2, fun b hb => (h3 b hb).resolve_left id, h4.below (Nat.le_refl _) fun b hb => hb.elim⟩
/-- a row that is new is the call's own -/
theorem FRow.own {w : World} {r : Raw} {base : Nat} (h : FRow w r) (hg : ∀ b, r.g = some b → base ≤ b) : Own w base 5 r.sl r.c.1 := by
  refine ⟨h.1, ?_⟩
  rcases h.2 with hn | ⟨g, cap, cur, hv, hbg, hr⟩
  · exact .inl hn
  · refine .inr ⟨g, cap, cur, hv, hg g ?_, hr⟩
    have := Raw.own r
    rw [hv] at this
    exact this.symm

set_option maxRecDepth 100000 in
theorem Put_any (A : Option Addr) (n c : Nat) (l : List UInt8) (e p : Ev) (w : World) (h : IsB w A n c l) (hl : n ≤ 800000) (hop : e.op < 256) :
    Calls Try.prog 28 #[.slice A n c, .agg #[.int .i64 p.th, .int .u8 (p.op : Int), .int .i64 p.obj, .int .i64 p.a, .int .i64 p.b], .agg #[.int .i64 e.th, .int .u8 (e.op : Int), .int .i64 e.obj, .int .i64 e.a, .int .i64 e.b]] w fun x w' =>
      ∃ v, x = .returned v ∧ Own w' w.heap.size 5 v (l ++ encEv p e) ∧ Below w.heap.size w w' := by
  have hcap := h.cap
  have hf : IsB w A n n l := ⟨h.len, Nat.le_refl _, fun hA => by have := h.none_ hA; omega, h.src⟩
  clear h
  have q1 : ((w.alloc (.cells #[.int .i64 p.th, .int .u8 (p.op : Int), .int .i64 p.obj, .int .i64 p.a, .int .i64 p.b] 54)).alloc (.cells #[.int .i64 e.th, .int .u8 (e.op : Int), .int .i64 e.obj, .int .i64 e.a, .int .i64 e.b] 54)).heap[w.heap.size]? = some (.cells #[.int .i64 p.th, .int .u8 (p.op : Int), .int .i64 p.obj, .int .i64 p.a, .int .i64 p.b] 54) := (heap_alloc_old _ _ (by simp)).trans (heap_alloc_new _ _)
  have q2 : ((w.alloc (.cells #[.int .i64 p.th, .int .u8 (p.op : Int), .int .i64 p.obj, .int .i64 p.a, .int .i64 p.b] 54)).alloc (.cells #[.int .i64 e.th, .int .u8 (e.op : Int), .int .i64 e.obj, .int .i64 e.a, .int .i64 e.b] 54)).heap[w.heap.size + 1]? = some (.cells #[.int .i64 e.th, .int .u8 (e.op : Int), .int .i64 e.obj, .int .i64 e.a, .int .i64 e.b] 54) := by have := heap_alloc_new (w.alloc (.cells #[.int .i64 p.th, .int .u8 (p.op : Int), .int .i64 p.obj, .int .i64 p.a, .int .i64 p.b] 54)) (.cells #[.int .i64 e.th, .int .u8 (e.op : Int), .int .i64 e.obj, .int .i64 e.a, .int .i64 e.b] 54); simpa using this
  have hB2 : Below w.heap.size w ((w.alloc (.cells #[.int .i64 p.th, .int .u8 (p.op : Int), .int .i64 p.obj, .int .i64 p.a, .int .i64 p.b] 54)).alloc (.cells #[.int .i64 e.th, .int .u8 (e.op : Int), .int .i64 e.obj, .int .i64 e.a, .int .i64 e.b] 54)) := ((Below.refl _ w).alloc (Nat.le_refl _) _).alloc (by simp) _
  have x0 : ((w.alloc (.cells #[.int .i64 p.th, .int .u8 (p.op : Int), .int .i64 p.obj, .int .i64 p.a, .int .i64 p.b] 54)).alloc (.cells #[.int .i64 e.th, .int .u8 (e.op : Int), .int .i64 e.obj, .int .i64 e.a, .int .i64 e.b] 54)).cell? ⟨w.heap.size, 0, none⟩ = some (.int .i64 p.th) := cell_of_row _ _ 0 _ _ _ q1
  have x1 : ((w.alloc (.cells #[.int .i64 p.th, .int .u8 (p.op : Int), .int .i64 p.obj, .int .i64 p.a, .int .i64 p.b] 54)).alloc (.cells #[.int .i64 e.th, .int .u8 (e.op : Int), .int .i64 e.obj, .int .i64 e.a, .int .i64 e.b] 54)).cell? ⟨w.heap.size, 1, none⟩ = some (.int .u8 (p.op : Int)) := cell_of_row _ _ 1 _ _ _ q1
  have x2 : ((w.alloc (.cells #[.int .i64 p.th, .int .u8 (p.op : Int), .int .i64 p.obj, .int .i64 p.a, .int .i64 p.b] 54)).alloc (.cells #[.int .i64 e.th, .int .u8 (e.op : Int), .int .i64 e.obj, .int .i64 e.a, .int .i64 e.b] 54)).cell? ⟨w.heap.size, 2, none⟩ = some (.int .i64 p.obj) := cell_of_row _ _ 2 _ _ _ q1
  have x3 : ((w.alloc (.cells #[.int .i64 p.th, .int .u8 (p.op : Int), .int .i64 p.obj, .int .i64 p.a, .int .i64 p.b] 54)).alloc (.cells #[.int .i64 e.th, .int .u8 (e.op : Int), .int .i64 e.obj, .int .i64 e.a, .int .i64 e.b] 54)).cell? ⟨w.heap.size, 3, none⟩ = some (.int .i64 p.a) := cell_of_row _ _ 3 _ _ _ q1
  have x4 : ((w.alloc (.cells #[.int .i64 p.th, .int .u8 (p.op : Int), .int .i64 p.obj, .int .i64 p.a, .int .i64 p.b] 54)).alloc (.cells #[.int .i64 e.th, .int .u8 (e.op : Int), .int .i64 e.obj, .int .i64 e.a, .int .i64 e.b] 54)).cell? ⟨w.heap.size, 4, none⟩ = some (.int .i64 p.b) := cell_of_row _ _ 4 _ _ _ q1
  have y0 : ((w.alloc (.cells #[.int .i64 p.th, .int .u8 (p.op : Int), .int .i64 p.obj, .int .i64 p.a, .int .i64 p.b] 54)).alloc (.cells #[.int .i64 e.th, .int .u8 (e.op : Int), .int .i64 e.obj, .int .i64 e.a, .int .i64 e.b] 54)).cell? ⟨w.heap.size + 1, 0, none⟩ = some (.int .i64 e.th) := cell_of_row _ _ 0 _ _ _ q2
  have y1 : ((w.alloc (.cells #[.int .i64 p.th, .int .u8 (p.op : Int), .int .i64 p.obj, .int .i64 p.a, .int .i64 p.b] 54)).alloc (.cells #[.int .i64 e.th, .int .u8 (e.op : Int), .int .i64 e.obj, .int .i64 e.a, .int .i64 e.b] 54)).cell? ⟨w.heap.size + 1, 1, none⟩ = some (.int .u8 (e.op : Int)) := cell_of_row _ _ 1 _ _ _ q2
  have y2 : ((w.alloc (.cells #[.int .i64 p.th, .int .u8 (p.op : Int), .int .i64 p.obj, .int .i64 p.a, .int .i64 p.b] 54)).alloc (.cells #[.int .i64 e.th, .int .u8 (e.op : Int), .int .i64 e.obj, .int .i64 e.a, .int .i64 e.b] 54)).cell? ⟨w.heap.size + 1, 2, none⟩ = some (.int .i64 e.obj) := cell_of_row _ _ 2 _ _ _ q2
  have y3 : ((w.alloc (.cells #[.int .i64 p.th, .int .u8 (p.op : Int), .int .i64 p.obj, .int .i64 p.a, .int .i64 p.b] 54)).alloc (.cells #[.int .i64 e.th, .int .u8 (e.op : Int), .int .i64 e.obj, .int .i64 e.a, .int .i64 e.b] 54)).cell? ⟨w.heap.size + 1, 3, none⟩ = some (.int .i64 e.a) := cell_of_row _ _ 3 _ _ _ q2
  have y4 : ((w.alloc (.cells #[.int .i64 p.th, .int .u8 (p.op : Int), .int .i64 p.obj, .int .i64 p.a, .int .i64 p.b] 54)).alloc (.cells #[.int .i64 e.th, .int .u8 (e.op : Int), .int .i64 e.obj, .int .i64 e.a, .int .i64 e.b] 54)).cell? ⟨w.heap.size + 1, 4, none⟩ = some (.int .i64 e.b) := cell_of_row _ _ 4 _ _ _ q2
  clear q1 q2
  go_enter Try.func28, Try.ntmps28
  go_wp2_with fail
  generalize ((w.alloc (.cells #[.int .i64 p.th, .int .u8 (p.op : Int), .int .i64 p.obj, .int .i64 p.a, .int .i64 p.b] 54)).alloc (.cells #[.int .i64 e.th, .int .u8 (e.op : Int), .int .i64 e.obj, .int .i64 e.a, .int .i64 e.b] 54)) = W2 at x0 y0 x1 y1 x2 y2 x3 y3 x4 y4 hB2 ⊢
  refine wp_region_held_drew (S := fun w' => Below W2.heap.size W2 w') (by kernel_rfl) ((Below.refl _ W2).drew) (fun hHeld => ?_)
  refine wpAnyH_take (i := 0) (v := ?_) rfl (by kernel_rfl) (by kernel_rfl) (by kernel_rfl) (fun _ _ _ h => h) (Or.inl ⟨by rfl, ?_⟩) hHeld ?_
  rotate_left
  · (intro w hSw; (try dsimp only at hSw); go_simp <;> rfl)
  simp only [Act.put, List.getElem_toArray, List.getElem_cons_zero, List.getElem_cons_succ, List.setIfInBounds_toArray, List.set_cons_zero, List.set_cons_succ]
  refine wpAnyH_take (i := 2) (v := ?_) rfl (by kernel_rfl) (by kernel_rfl) (by kernel_rfl) (fun _ _ _ h => h) (Or.inl ⟨by rfl, ?_⟩) hHeld ?_
  rotate_left
  · (intro w hSw; have z0 := cell_below hSw _ _ x0; have z1 := cell_below hSw _ _ x1; have z2 := cell_below hSw _ _ x2; have z3 := cell_below hSw _ _ x3; have z4 := cell_below hSw _ _ x4; go_simp <;> rfl)
  simp only [Act.put, List.getElem_toArray, List.getElem_cons_zero, List.getElem_cons_succ, List.setIfInBounds_toArray, List.set_cons_zero, List.set_cons_succ]
  refine wpAnyH_take (i := 3) (v := ?_) rfl (by kernel_rfl) (by kernel_rfl) (by kernel_rfl) (fun _ _ _ h => h) (Or.inl ⟨by rfl, ?_⟩) hHeld ?_
  rotate_left
  · (intro w hSw; have z0 := cell_below hSw _ _ y0; have z1 := cell_below hSw _ _ y1; have z2 := cell_below hSw _ _ y2; have z3 := cell_below hSw _ _ y3; have z4 := cell_below hSw _ _ y4; go_simp <;> rfl)
  simp only [Act.put, List.getElem_toArray, List.getElem_cons_zero, List.getElem_cons_succ, List.setIfInBounds_toArray, List.set_cons_zero, List.set_cons_succ]
  refine wpAnyH_ready (rs := [1]) (by kernel_rfl) (by simp) ?_
  refine AllReadyH.cons rfl (fun K hK => ?_) AllReadyH.nil
  go_simp
  refine (clip_any _ _ _ _ hcap).mono ?_
  rintro e w' ⟨rfl, rfl⟩
  dsimp only
  refine hK.out _ _ hHeld (fun hHeld => ?_)
  clear hK K
  try simp only [Act.put, List.getElem_toArray, List.getElem_cons_zero, List.getElem_cons_succ, List.setIfInBounds_toArray, List.set_cons_zero, List.set_cons_succ]
  refine wpAnyH_ready (rs := [4]) (by kernel_rfl) (by simp) ?_
  refine AllReadyH.cons rfl (fun K hK => ?_) AllReadyH.nil
  go_simp
  have hB3 := hB2.trans (hHeld.mono hB2.size)
  have hz := hB3.size
  refine (put_full (p := p) (hf.below hB3) hl hop).mono ?_
  rintro x w4 ⟨r, rfl, h1, h2, h3, h4⟩
  have hB4 := hB3.trans (h4.mono hz)
  have hB4' := hHeld.trans (h4.mono hHeld.size)
  clear hf
  dsimp only
  refine hK.out _ _ hB4' (fun hHeld => ?_)
  clear hK K
  try simp only [Act.put, List.getElem_toArray, List.getElem_cons_zero, List.getElem_cons_succ, List.setIfInBounds_toArray, List.set_cons_zero, List.set_cons_succ]
  refine wpAnyH_take (i := 5) (v := ?_) rfl (by kernel_rfl) (by kernel_rfl) (by kernel_rfl) (fun _ _ _ h => h) (Or.inl ⟨by rfl, ?_⟩) hHeld ?_
  rotate_left
  · (intro w hSw; (try dsimp only at hSw); go_simp <;> rfl)
  simp only [Act.put, List.getElem_toArray, List.getElem_cons_zero, List.getElem_cons_succ, List.setIfInBounds_toArray, List.set_cons_zero, List.set_cons_succ]
  refine wpAnyH_done (by kernel_rfl) ?_ _
  go_wp2_with fail
  go_ret
  have := h1.own (base := w.heap.size) fun b hb => Nat.le_trans hz (h3 b hb)
  rw [h2] at this
  exact ⟨_, rfl, this, hB4⟩
end Go.Proofs.Ytiockkphciadeaa
