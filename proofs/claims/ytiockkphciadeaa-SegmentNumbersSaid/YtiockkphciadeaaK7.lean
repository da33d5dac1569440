/-
  Columns, read.
-/
import Derived.Test.YtiockkphciadeaaK6
import Derived.Test.YtiockkphciadeaaKSgCols
set_option linter.unusedVariables false
set_option linter.unusedSimpArgs false
namespace Go.Proofs.Ytiockkphciadeaa
open Go.RowKit
open Go.Lib (byteCells byteCells_length byteCells_append uvarint)

def lenV : Value → Nat
  | .slice _ m _ => m
  | _ => 0
theorem IsB.awayX {F : Nat → Prop} {w w' : World} {A : Option Addr} {n c : Nat} {l : List UInt8} (h : IsB w A n c l) (ha : Away F w w') (hf : ∀ ad, A = some ad → ad.block < w.heap.size → ¬ F ad.block) : IsB w' A n c l := by
  refine ⟨h.len, h.cap, h.none_, ?_⟩
  rcases h.src with h0 | ⟨b, o, hA, hc⟩
  · exact .inl h0
  · refine .inr ⟨b, o, hA, fun j u hj => ?_⟩
    have hx := hc j u hj
    have hl := block_lt_of_cell hx
    exact (World.cell?_of_block (ha.block b hl (hf _ hA hl))).trans hx
theorem colSet_op (c : Nat) (e : Ev) (x : Int) (h : e.op < 256) : (colSet c e x).op < 256 := by
  match c with
  | 0 => exact h
  | 1 => show (x % 256).toNat < 256; omega
  | 2 => exact h
  | 3 => exact h
  | n + 4 => exact h
theorem run_fromE (w : World) (A : Option Addr) (n c i : Nat) (hi : i ≤ n) :
    (Instr.slice 60 (.slice A n c) (some (.int .u64 (i : Int))) none none).run Try.prog w = .ok (.slice (if c = i then A else A.map (·.add (i * 5))) (n - i) (c - i)) w := by
  obtain ⟨i0, hi0, hz0, hz1, hz2⟩ := info_parts infoEv
  have ht : Try.prog.underlying 60 = some (.slice (Try.prog.elem 60)) := by simp [Program.elem, Try.underlying60]
  have he : Try.prog.elem 60 = 54 := by simp [Program.elem, Try.underlying60]
  rw [run_slice_l w 60 A n c ht .u64 (i : Int) (by omega) (by omega), he]
  simp [sizeOf, typeInfo, hi0, hz1, Result.andThen, sliced]
theorem layE_0 {w : World} {g q p : Nat} {es : List Ev} {e : Ev} (hE : EvB w g es) (hq : es[q]? = some e) (hp : (q * 5) = p) (v : Int) :
    Calls Try.prog 111 #[.pointer (some ⟨g, p, none⟩), .int .i64 v] w fun e' w' => e' = .returned (.tuple #[]) ∧ EvB w' g (es.set q (colSet 0 e v)) ∧ Away (fun b => b = g) w w' := by
  subst hp
  refine (lay_0 hE (hE.cell hq (f := 0) (by omega) rfl) v).mono ?_
  rintro e' w' ⟨rfl, rfl⟩
  exact ⟨rfl, hE.set hq (f := 0) (by omega) (rfl), Away.setCell w ⟨g, q * 5 + 0, none⟩ _⟩
theorem layE_1 {w : World} {g q p : Nat} {es : List Ev} {e : Ev} (hE : EvB w g es) (hq : es[q]? = some e) (hp : (q * 5) = p) (v : Int) :
    Calls Try.prog 113 #[.pointer (some ⟨g, p, none⟩), .int .i64 v] w fun e' w' => e' = .returned (.tuple #[]) ∧ EvB w' g (es.set q (colSet 1 e v)) ∧ Away (fun b => b = g) w w' := by
  subst hp
  refine (lay_1 hE (hE.cell hq (f := 1) (by omega) rfl) v).mono ?_
  rintro e' w' ⟨rfl, rfl⟩
  exact ⟨rfl, hE.set hq (f := 1) (by omega) (by simp [Ev.cells, colSet]; omega), Away.setCell w ⟨g, q * 5 + 1, none⟩ _⟩
theorem layE_2 {w : World} {g q p : Nat} {es : List Ev} {e : Ev} (hE : EvB w g es) (hq : es[q]? = some e) (hp : (q * 5) = p) (v : Int) :
    Calls Try.prog 115 #[.pointer (some ⟨g, p, none⟩), .int .i64 v] w fun e' w' => e' = .returned (.tuple #[]) ∧ EvB w' g (es.set q (colSet 2 e v)) ∧ Away (fun b => b = g) w w' := by
  subst hp
  refine (lay_2 hE (hE.cell hq (f := 2) (by omega) rfl) v).mono ?_
  rintro e' w' ⟨rfl, rfl⟩
  exact ⟨rfl, hE.set hq (f := 2) (by omega) (rfl), Away.setCell w ⟨g, q * 5 + 2, none⟩ _⟩
theorem layE_3 {w : World} {g q p : Nat} {es : List Ev} {e : Ev} (hE : EvB w g es) (hq : es[q]? = some e) (hp : (q * 5) = p) (v : Int) :
    Calls Try.prog 117 #[.pointer (some ⟨g, p, none⟩), .int .i64 v] w fun e' w' => e' = .returned (.tuple #[]) ∧ EvB w' g (es.set q (colSet 3 e v)) ∧ Away (fun b => b = g) w w' := by
  subst hp
  refine (lay_3 hE (hE.cell hq (f := 3) (by omega) rfl) v).mono ?_
  rintro e' w' ⟨rfl, rfl⟩
  exact ⟨rfl, hE.set hq (f := 3) (by omega) (rfl), Away.setCell w ⟨g, q * 5 + 3, none⟩ _⟩
theorem layE_4 {w : World} {g q p : Nat} {es : List Ev} {e : Ev} (hE : EvB w g es) (hq : es[q]? = some e) (hp : (q * 5) = p) (v : Int) :
    Calls Try.prog 119 #[.pointer (some ⟨g, p, none⟩), .int .i64 v] w fun e' w' => e' = .returned (.tuple #[]) ∧ EvB w' g (es.set q (colSet 4 e v)) ∧ Away (fun b => b = g) w w' := by
  subst hp
  refine (lay_4 hE (hE.cell hq (f := 4) (by omega) rfl) v).mono ?_
  rintro e' w' ⟨rfl, rfl⟩
  exact ⟨rfl, hE.set hq (f := 4) (by omega) (rfl), Away.setCell w ⟨g, q * 5 + 4, none⟩ _⟩
end Go.Proofs.Ytiockkphciadeaa

/-
  Pack: the denser coding of events.
-/
set_option linter.unusedVariables false
set_option linter.unusedSimpArgs false
namespace Go.Proofs.Ytiockkphciadeaa
open Go.RowKit
open Go.Lib (byteCells byteCells_length byteCells_append uvarint)

def colsTo (es : List Ev) : Nat → List UInt8
  | 0 => []
  | i + 1 => colsTo es i ++ numsBytes (es.map (colGet i))
def denseOf (first : Nat) (es : List Ev) : List UInt8 := beginOf denseMark first ++ (uvarint es.length ++ colsTo es 5)
theorem numsBytes_most (xs : List Int) (h : xs.length ≤ 1048576) : (numsBytes xs).length ≤ 20 * xs.length := by
  have hg := good_runs (diffs 0 xs)
  have he := expand_runs (diffs 0 xs)
  have hl := diffs_length 0 xs
  have h1 := encRuns_most (runsOf (diffs 0 xs)) fun x hx => by
    have := good_mem hg hx
    rw [he] at this
    exact ⟨diffs_in xs 0 _ this.1, by omega⟩
  have h2 := runs_le hg
  rw [he, hl] at h2
  unfold numsBytes
  omega
theorem colsTo_most (es : List Ev) (h : es.length ≤ 1048576) : ∀ k, (colsTo es k).length ≤ 20 * 1048576 * k
  | 0 => by simp [colsTo]
  | k + 1 => by
    have h1 := colsTo_most es h k
    have h2 := numsBytes_most (es.map (colGet k)) (by rw [List.length_map]; exact h)
    rw [List.length_map] at h2
    show (colsTo es k ++ _).length ≤ _
    rw [List.length_append]
    omega

set_option maxRecDepth 100000 in
set_option maxHeartbeats 4000000 in
theorem Pack_any (first : Nat) (A : Option Addr) (n c : Nat) (es : List Ev) (w : World) (h : IsEv w A n c es) (h1 : 1 ≤ n) (hn : n ≤ 1048576) (hok : ∀ x ∈ es, x.ok) (hf : first ≤ 4611686018427387904) :
    Calls Try.prog 42 #[.int .i64 (first : Int), .slice A n c] w fun e w' => ∃ v, e = .returned (.tuple #[v, .int .i64 0]) ∧ Own w' w.heap.size 5 v (sealed (denseOf first es)) ∧ Below w.heap.size w w' := by
  have HM := Lib.hid (may_yes first w hf)
  have HG := Lib.hid (begin_any denseMark ⟨#[65, 77, 68, 49]⟩ first w rfl (by decide) hf)
  have hbl := Lib.uvarint_length64 (x := first) (by omega)
  have hbm := beginOf_length (mark := denseMark) rfl first
  have d0 : ((n : Int) == 0) = false := beq_eq_false_iff_ne.2 (by omega)
  have d1 : decide ((1048576 : Int) < (n : Int)) = false := decide_eq_false (by omega)
  have e1 := nat_u64 n (by omega)
  have hlen := h.len
  have HE := Lib.hid h
  have HOK := Lib.hid hok
  have hel : es.length ≤ 1048576 := by omega
  clear h hok
  go_enter Try.func42, Try.ntmps42
  go_wp2_with fail
  refine HM.out.mono ?_
  rintro e w' ⟨rfl, rfl⟩
  go_wp2_with fail
  refine HG.out.mono ?_
  rintro e w1 ⟨v, rfl, ho, hb⟩
  obtain ⟨A1, m, c1, rfl, hI⟩ := own_slice ho
  have hm := hI.len
  have HU := Lib.hid (uint_any A1 m c1 n _ w1 hI (by omega) (by omega))
  have hz := hb.size
  clear ho hI
  go_wp2_with fail
  refine HU.out.mono ?_
  rintro e w2 ⟨v2, rfl, ho2, hb2⟩
  have hB2 := bstep0 hb hb2
  have hnl := Lib.uvarint_length64 (x := n) (by omega)
  obtain ⟨pre, hpre⟩ : ∃ p, Hid (beginOf denseMark first ++ uvarint n = p) := ⟨_, rfl⟩
  have hprel : pre.length ≤ 30 := by rw [← hpre.out, List.length_append]; omega
  rw [hpre.out] at ho2
  obtain ⟨r0, rfl, hc0, hr0⟩ := row_of_own ho2 0 rfl
  have hg0 : Hid (∀ b, r0.g = some b → w.heap.size ≤ b) := fun b hb0 => by
    rcases ho2.2 with ⟨hv, _⟩ | ⟨g, cap, cur, hv, hbg, hg, hr⟩
    · have h3 := r0.own; rw [hv] at h3; rw [← h3] at hb0; cases hb0
    · have h3 := r0.own; rw [hv] at h3
      have h4 : some g = r0.g := h3
      rw [← h4] at hb0; injection hb0 with hb0; omega
  obtain ⟨A2, m2, c2, hs2⟩ : ∃ A m c, r0.sl = .slice A m c := ⟨_, _, _, rfl⟩
  rw [hs2]
  have HC := Lib.hid (columns_any w2)
  have HB2 := Lib.hid hB2
  have HR0 := Lib.hid hr0
  have HC0 := Lib.hid hc0
  have HS2 := Lib.hid hs2
  clear hb hb2 hB2 ho2 hr0 hc0 HU HG HM hm hbl hbm hs2 hz hnl
  go_wp2_with fail
  refine HC.out.mono ?_
  rintro e w3 ⟨rfl, hb3⟩
  have hR3 := HR0.out.away (Away.of_new hb3 (fun _ => False)) fun _ _ f => f
  have hB3 := HB2.out.trans (hb3.mono HB2.out.size)
  have HR3 := Lib.hid hR3
  have HB3 := Lib.hid hB3
  clear hb3 hR3 hB3 HC
  go_wp2_with fail
  go_loopw [6, 27] (fun out q wr => ∃ (i : Nat) (r : Raw) (A1 : Option Addr) (m1 c1 : Nat), q = .int .i64 (i : Int) ∧ i ≤ 5 ∧ out = .slice A1 m1 c1 ∧ Hid (r.sl = .slice A1 m1 c1) ∧ FRow wr r ∧ Hid (r.c = (pre ++ colsTo es i, 0)) ∧ Hid (∀ b, r.g = some b → w.heap.size ≤ b) ∧ Below w.heap.size w wr)
    (fun _ q _ => 5 - (intOf q).toNat)
  case atStart => exact ⟨0, r0, A2, m2, c2, rfl, by omega, rfl, HS2.out, HR3.out, by show _ = _; rw [HC0.out]; simp [colsTo], hg0, HB3.out⟩
  case round =>
    obtain ⟨i, r, A1, m1, c1, rfl, hi5, rfl, hsl, hr, hrc, hrg, hBr⟩ := hrel
    have hE := HE.out.below hBr
    have hbs := hBr.size
    have HBr := Lib.hid hBr
    clear hBr
    by_cases hi : i < 5
    · obtain rfl | rfl | rfl | rfl | rfl : i = 0 ∨ i = 1 ∨ i = 2 ∨ i = 3 ∨ i = 4 := by omega
      · -- the column 0
        have hp := put_0 (w := wr.alloc (.cells #[fnV 110, fnV 111] 133)) (r := r) (hE.below ((Below.refl _ _).alloc (Nat.le_refl _) _)) hn HOK.out (hr.away (Away.of_new ((Below.refl _ _).alloc (Nat.le_refl _) _) (fun _ => False)) fun _ _ f => f) hsl.out (by
          rw [hrc.out]
          have := colsTo_most es hel 0
          show (pre ++ colsTo es 0).length ≤ _
          rw [List.length_append]
          omega)
        have hix : ∀ W : World, (Instr.index 134 (.agg #[fnV 110, fnV 111, fnV 112, fnV 113, fnV 114, fnV 115, fnV 116, fnV 117, fnV 118, fnV 119]) (.int .i64 0)).run Try.prog W = .ok (.agg #[fnV 110, fnV 111]) W := fun W => by rfl
        have HP := Lib.hid hp
        clear hr hE hp
        go_wp2_with fail
        refine HP.out.mono ?_
        rintro e w2 ⟨⟨r2, rfl, hr2, hc2, hg2⟩, ha2⟩
        obtain ⟨A2, m2, c2, hs2⟩ : ∃ A m c, r2.sl = .slice A m c := ⟨_, _, _, rfl⟩
        have hz2 := ha2.size
        have hz1 : wr.heap.size ≤ (wr.alloc (.cells #[fnV 110, fnV 111] 133)).heap.size := ((Below.refl wr.heap.size wr).alloc (Nat.le_refl _) _).size
        have hg3 : Hid (∀ b, r2.g = some b → w.heap.size ≤ b) := fun b hb => by
          rcases hg2 with e | ⟨b', e, h3⟩
          · exact hrg.out b (e ▸ hb)
          · rw [e] at hb; injection hb with hb; omega
        have hc3 : Hid (r2.c = (pre ++ colsTo es 1, 0)) := by
          show _ = _
          rw [hc2, hrc.out]
          show ((pre ++ colsTo es 0) ++ _, 0) = _
          rw [List.append_assoc]
          rfl
        have hB2 := (HBr.out.trans (((Below.refl wr.heap.size wr).alloc (Nat.le_refl _) (.cells #[fnV 110, fnV 111] 133)).mono hbs)).trans (ha2.below (B := w.heap.size) (Nat.le_trans hbs hz1) fun b hb => hrg.out b hb)
        have HR2 := Lib.hid hr2
        have HB2 := Lib.hid hB2
        have HS2 := Lib.hid hs2
        rw [hs2]
        clear hr2 hc2 hg2 ha2 hB2 hs2 hz2 hz1
        go_wp2_with fail
        go_roundw
        case rel => exact ⟨1, r2, A2, m2, c2, rfl, by omega, rfl, HS2.out, HR2.out, hc3, hg3, HB2.out⟩
        case measure => simp [intOf]
      · -- the column 1
        have hp := put_1 (w := wr.alloc (.cells #[fnV 112, fnV 113] 133)) (r := r) (hE.below ((Below.refl _ _).alloc (Nat.le_refl _) _)) hn HOK.out (hr.away (Away.of_new ((Below.refl _ _).alloc (Nat.le_refl _) _) (fun _ => False)) fun _ _ f => f) hsl.out (by
          rw [hrc.out]
          have := colsTo_most es hel 1
          show (pre ++ colsTo es 1).length ≤ _
          rw [List.length_append]
          omega)
        have hix : ∀ W : World, (Instr.index 134 (.agg #[fnV 110, fnV 111, fnV 112, fnV 113, fnV 114, fnV 115, fnV 116, fnV 117, fnV 118, fnV 119]) (.int .i64 1)).run Try.prog W = .ok (.agg #[fnV 112, fnV 113]) W := fun W => by rfl
        have HP := Lib.hid hp
        clear hr hE hp
        go_wp2_with fail
        refine HP.out.mono ?_
        rintro e w2 ⟨⟨r2, rfl, hr2, hc2, hg2⟩, ha2⟩
        obtain ⟨A2, m2, c2, hs2⟩ : ∃ A m c, r2.sl = .slice A m c := ⟨_, _, _, rfl⟩
        have hz2 := ha2.size
        have hz1 : wr.heap.size ≤ (wr.alloc (.cells #[fnV 112, fnV 113] 133)).heap.size := ((Below.refl wr.heap.size wr).alloc (Nat.le_refl _) _).size
        have hg3 : Hid (∀ b, r2.g = some b → w.heap.size ≤ b) := fun b hb => by
          rcases hg2 with e | ⟨b', e, h3⟩
          · exact hrg.out b (e ▸ hb)
          · rw [e] at hb; injection hb with hb; omega
        have hc3 : Hid (r2.c = (pre ++ colsTo es 2, 0)) := by
          show _ = _
          rw [hc2, hrc.out]
          show ((pre ++ colsTo es 1) ++ _, 0) = _
          rw [List.append_assoc]
          rfl
        have hB2 := (HBr.out.trans (((Below.refl wr.heap.size wr).alloc (Nat.le_refl _) (.cells #[fnV 112, fnV 113] 133)).mono hbs)).trans (ha2.below (B := w.heap.size) (Nat.le_trans hbs hz1) fun b hb => hrg.out b hb)
        have HR2 := Lib.hid hr2
        have HB2 := Lib.hid hB2
        have HS2 := Lib.hid hs2
        rw [hs2]
        clear hr2 hc2 hg2 ha2 hB2 hs2 hz2 hz1
        go_wp2_with fail
        go_roundw
        case rel => exact ⟨2, r2, A2, m2, c2, rfl, by omega, rfl, HS2.out, HR2.out, hc3, hg3, HB2.out⟩
        case measure => simp [intOf]
      · -- the column 2
        have hp := put_2 (w := wr.alloc (.cells #[fnV 114, fnV 115] 133)) (r := r) (hE.below ((Below.refl _ _).alloc (Nat.le_refl _) _)) hn HOK.out (hr.away (Away.of_new ((Below.refl _ _).alloc (Nat.le_refl _) _) (fun _ => False)) fun _ _ f => f) hsl.out (by
          rw [hrc.out]
          have := colsTo_most es hel 2
          show (pre ++ colsTo es 2).length ≤ _
          rw [List.length_append]
          omega)
        have hix : ∀ W : World, (Instr.index 134 (.agg #[fnV 110, fnV 111, fnV 112, fnV 113, fnV 114, fnV 115, fnV 116, fnV 117, fnV 118, fnV 119]) (.int .i64 2)).run Try.prog W = .ok (.agg #[fnV 114, fnV 115]) W := fun W => by rfl
        have HP := Lib.hid hp
        clear hr hE hp
        go_wp2_with fail
        refine HP.out.mono ?_
        rintro e w2 ⟨⟨r2, rfl, hr2, hc2, hg2⟩, ha2⟩
        obtain ⟨A2, m2, c2, hs2⟩ : ∃ A m c, r2.sl = .slice A m c := ⟨_, _, _, rfl⟩
        have hz2 := ha2.size
        have hz1 : wr.heap.size ≤ (wr.alloc (.cells #[fnV 114, fnV 115] 133)).heap.size := ((Below.refl wr.heap.size wr).alloc (Nat.le_refl _) _).size
        have hg3 : Hid (∀ b, r2.g = some b → w.heap.size ≤ b) := fun b hb => by
          rcases hg2 with e | ⟨b', e, h3⟩
          · exact hrg.out b (e ▸ hb)
          · rw [e] at hb; injection hb with hb; omega
        have hc3 : Hid (r2.c = (pre ++ colsTo es 3, 0)) := by
          show _ = _
          rw [hc2, hrc.out]
          show ((pre ++ colsTo es 2) ++ _, 0) = _
          rw [List.append_assoc]
          rfl
        have hB2 := (HBr.out.trans (((Below.refl wr.heap.size wr).alloc (Nat.le_refl _) (.cells #[fnV 114, fnV 115] 133)).mono hbs)).trans (ha2.below (B := w.heap.size) (Nat.le_trans hbs hz1) fun b hb => hrg.out b hb)
        have HR2 := Lib.hid hr2
        have HB2 := Lib.hid hB2
        have HS2 := Lib.hid hs2
        rw [hs2]
        clear hr2 hc2 hg2 ha2 hB2 hs2 hz2 hz1
        go_wp2_with fail
        go_roundw
        case rel => exact ⟨3, r2, A2, m2, c2, rfl, by omega, rfl, HS2.out, HR2.out, hc3, hg3, HB2.out⟩
        case measure => simp [intOf]
      · -- the column 3
        have hp := put_3 (w := wr.alloc (.cells #[fnV 116, fnV 117] 133)) (r := r) (hE.below ((Below.refl _ _).alloc (Nat.le_refl _) _)) hn HOK.out (hr.away (Away.of_new ((Below.refl _ _).alloc (Nat.le_refl _) _) (fun _ => False)) fun _ _ f => f) hsl.out (by
          rw [hrc.out]
          have := colsTo_most es hel 3
          show (pre ++ colsTo es 3).length ≤ _
          rw [List.length_append]
          omega)
        have hix : ∀ W : World, (Instr.index 134 (.agg #[fnV 110, fnV 111, fnV 112, fnV 113, fnV 114, fnV 115, fnV 116, fnV 117, fnV 118, fnV 119]) (.int .i64 3)).run Try.prog W = .ok (.agg #[fnV 116, fnV 117]) W := fun W => by rfl
        have HP := Lib.hid hp
        clear hr hE hp
        go_wp2_with fail
        refine HP.out.mono ?_
        rintro e w2 ⟨⟨r2, rfl, hr2, hc2, hg2⟩, ha2⟩
        obtain ⟨A2, m2, c2, hs2⟩ : ∃ A m c, r2.sl = .slice A m c := ⟨_, _, _, rfl⟩
        have hz2 := ha2.size
        have hz1 : wr.heap.size ≤ (wr.alloc (.cells #[fnV 116, fnV 117] 133)).heap.size := ((Below.refl wr.heap.size wr).alloc (Nat.le_refl _) _).size
        have hg3 : Hid (∀ b, r2.g = some b → w.heap.size ≤ b) := fun b hb => by
          rcases hg2 with e | ⟨b', e, h3⟩
          · exact hrg.out b (e ▸ hb)
          · rw [e] at hb; injection hb with hb; omega
        have hc3 : Hid (r2.c = (pre ++ colsTo es 4, 0)) := by
          show _ = _
          rw [hc2, hrc.out]
          show ((pre ++ colsTo es 3) ++ _, 0) = _
          rw [List.append_assoc]
          rfl
        have hB2 := (HBr.out.trans (((Below.refl wr.heap.size wr).alloc (Nat.le_refl _) (.cells #[fnV 116, fnV 117] 133)).mono hbs)).trans (ha2.below (B := w.heap.size) (Nat.le_trans hbs hz1) fun b hb => hrg.out b hb)
        have HR2 := Lib.hid hr2
        have HB2 := Lib.hid hB2
        have HS2 := Lib.hid hs2
        rw [hs2]
        clear hr2 hc2 hg2 ha2 hB2 hs2 hz2 hz1
        go_wp2_with fail
        go_roundw
        case rel => exact ⟨4, r2, A2, m2, c2, rfl, by omega, rfl, HS2.out, HR2.out, hc3, hg3, HB2.out⟩
        case measure => simp [intOf]
      · -- the column 4
        have hp := put_4 (w := wr.alloc (.cells #[fnV 118, fnV 119] 133)) (r := r) (hE.below ((Below.refl _ _).alloc (Nat.le_refl _) _)) hn HOK.out (hr.away (Away.of_new ((Below.refl _ _).alloc (Nat.le_refl _) _) (fun _ => False)) fun _ _ f => f) hsl.out (by
          rw [hrc.out]
          have := colsTo_most es hel 4
          show (pre ++ colsTo es 4).length ≤ _
          rw [List.length_append]
          omega)
        have hix : ∀ W : World, (Instr.index 134 (.agg #[fnV 110, fnV 111, fnV 112, fnV 113, fnV 114, fnV 115, fnV 116, fnV 117, fnV 118, fnV 119]) (.int .i64 4)).run Try.prog W = .ok (.agg #[fnV 118, fnV 119]) W := fun W => by rfl
        have HP := Lib.hid hp
        clear hr hE hp
        go_wp2_with fail
        refine HP.out.mono ?_
        rintro e w2 ⟨⟨r2, rfl, hr2, hc2, hg2⟩, ha2⟩
        obtain ⟨A2, m2, c2, hs2⟩ : ∃ A m c, r2.sl = .slice A m c := ⟨_, _, _, rfl⟩
        have hz2 := ha2.size
        have hz1 : wr.heap.size ≤ (wr.alloc (.cells #[fnV 118, fnV 119] 133)).heap.size := ((Below.refl wr.heap.size wr).alloc (Nat.le_refl _) _).size
        have hg3 : Hid (∀ b, r2.g = some b → w.heap.size ≤ b) := fun b hb => by
          rcases hg2 with e | ⟨b', e, h3⟩
          · exact hrg.out b (e ▸ hb)
          · rw [e] at hb; injection hb with hb; omega
        have hc3 : Hid (r2.c = (pre ++ colsTo es 5, 0)) := by
          show _ = _
          rw [hc2, hrc.out]
          show ((pre ++ colsTo es 4) ++ _, 0) = _
          rw [List.append_assoc]
          rfl
        have hB2 := (HBr.out.trans (((Below.refl wr.heap.size wr).alloc (Nat.le_refl _) (.cells #[fnV 118, fnV 119] 133)).mono hbs)).trans (ha2.below (B := w.heap.size) (Nat.le_trans hbs hz1) fun b hb => hrg.out b hb)
        have HR2 := Lib.hid hr2
        have HB2 := Lib.hid hB2
        have HS2 := Lib.hid hs2
        rw [hs2]
        clear hr2 hc2 hg2 ha2 hB2 hs2 hz2 hz1
        go_wp2_with fail
        go_roundw
        case rel => exact ⟨5, r2, A2, m2, c2, rfl, by omega, rfl, HS2.out, HR2.out, hc3, hg3, HB2.out⟩
        case measure => simp [intOf]
    · obtain rfl : i = 5 := by omega
      have hI := sl_isB hr hsl.out
      rw [hrc.out] at hI
      have hI : IsB wr A1 m1 c1 (pre ++ colsTo es 5) := hI
      have hml := hI.len
      have hcm := colsTo_most es hel 5
      rw [List.length_append] at hml
      have HS := Lib.hid (seal_any A1 m1 c1 _ wr hI (by omega))
      have hden : Hid (sealed (denseOf first es) = (pre ++ colsTo es 5) ++ sumBytes (crc (pre ++ colsTo es 5))) := by
        show _ = _
        unfold sealed denseOf
        rw [hlen, ← List.append_assoc, hpre.out]
      clear hr hI hE hml hcm
      go_wp2_with fail
      refine HS.out.mono ?_
      rintro e w4 ⟨v4, rfl, ho4, hb4⟩
      have ho5 := ho4.mono hbs
      have hb5 := HBr.out.trans (hb4.mono hbs)
      clear ho4 hb4 HS
      go_wp2_with fail
      refine bodyPost_ret (v := .tuple #[v4, .int .i64 0]) (by simp [results, Try.results42, go_sem]) rfl ⟨v4, rfl, ?_, hb5⟩
      rw [hden.out]
      exact ho5
set_option maxRecDepth 100000 in
theorem Pack_no (x : Int) (A : Option Addr) (n c : Nat) (w : World) (hx : x < 0 ∨ 4611686018427387904 < x) :
    Calls Try.prog 42 #[.int .i64 x, .slice A n c] w fun e w' => e = .returned (.tuple #[.slice none 0 0, .int .i64 2]) ∧ w = w' := by
  have HM := Lib.hid (may_no x w hx)
  clear hx
  go_enter Try.func42, Try.ntmps42
  go_wp2_with fail
  refine HM.out.mono ?_
  rintro e w' ⟨rfl, rfl⟩
  go_wp2_with fail
  go_ret2
  exact ⟨rfl, rfl⟩
set_option maxRecDepth 100000 in
theorem Pack_none (first : Nat) (A : Option Addr) (c : Nat) (w : World) (hf : first ≤ 4611686018427387904) :
    Calls Try.prog 42 #[.int .i64 (first : Int), .slice A 0 c] w fun e w' => e = .returned (.tuple #[.slice none 0 0, .int .i64 2]) ∧ w = w' := by
  have HM := Lib.hid (may_yes first w hf)
  go_enter Try.func42, Try.ntmps42
  go_wp2_with fail
  refine HM.out.mono ?_
  rintro e w' ⟨rfl, rfl⟩
  go_wp2_with fail
  go_ret2
  exact ⟨rfl, rfl⟩
set_option maxRecDepth 100000 in
theorem Pack_long (first : Nat) (A : Option Addr) (n c : Nat) (w : World) (hf : first ≤ 4611686018427387904) (hn : 1048576 < n) :
    Calls Try.prog 42 #[.int .i64 (first : Int), .slice A n c] w fun e w' => e = .returned (.tuple #[.slice none 0 0, .int .i64 3]) ∧ w = w' := by
  have HM := Lib.hid (may_yes first w hf)
  have d0 : ((n : Int) == 0) = false := beq_eq_false_iff_ne.2 (by omega)
  have d1 : decide ((1048576 : Int) < (n : Int)) = true := decide_eq_true (by omega)
  clear hn
  go_enter Try.func42, Try.ntmps42
  go_wp2_with fail
  refine HM.out.mono ?_
  rintro e w' ⟨rfl, rfl⟩
  go_wp2_with fail
  go_ret2
  exact ⟨rfl, rfl⟩
end Go.Proofs.Ytiockkphciadeaa
