/-
  Unpack: the denser coding, read.
-/
import Derived.Test.YtiockkphciadeaaKSgRead0
import Derived.Test.YtiockkphciadeaaKSgRead1
import Derived.Test.YtiockkphciadeaaKSgRead2
import Derived.Test.YtiockkphciadeaaKSgRead3
import Derived.Test.YtiockkphciadeaaKSgRead4
import Derived.Test.YtiockkphciadeaaK7
set_option linter.unusedVariables false
set_option linter.unusedSimpArgs false
namespace Go.Proofs.Ytiockkphciadeaa
open Go.RowKit
open Go.Lib (byteCells byteCells_length byteCells_append uvarint)

def rdCols (l : List UInt8) : List Nat → Nat → List Ev → Option (List Ev × Nat)
  | [], k, es => some (es, k)
  | c :: cs, k, es => match rdCol c l k es with
    | none => none
    | some r => rdCols l cs r.2 r.1
/-- the number and the events of what was packed, but for its sum -/
def rdDense (b : List UInt8) : Option (Nat × List Ev) :=
  if (rdBegin denseMark b).2.2 ≠ 0 then none
  else if (getU (b.drop (rdBegin denseMark b).2.1)).2.2 ≠ 0 ∨ (getU (b.drop (rdBegin denseMark b).2.1)).1 = 0 ∨ 1048576 < (getU (b.drop (rdBegin denseMark b).2.1)).1 then none
  else match rdCols b [0, 1, 2, 3, 4] ((rdBegin denseMark b).2.1 + (getU (b.drop (rdBegin denseMark b).2.1)).2.1) (List.replicate (getU (b.drop (rdBegin denseMark b).2.1)).1 Ev.zero) with
    | none => none
    | some r => if r.2 = b.length then some ((rdBegin denseMark b).1, r.1) else none
theorem madeE (N : Nat) : madeCells (#[.int .i64 0, .int .u8 0, .int .i64 0, .int .i64 0, .int .i64 0] : Array Value) (N * 5) = ((List.replicate N Ev.zero).flatMap Ev.cells).toArray := by
  apply Array.ext
  · rw [size_madeCells, List.size_toArray, flat_len, List.length_replicate]
  · intro i h1 h2
    rw [size_madeCells] at h1
    have h3 := flatEv (List.replicate N Ev.zero) (i / 5) Ev.zero (by rw [List.getElem?_replicate, if_pos (by omega)]) (i % 5) (by omega)
    rw [show i / 5 * 5 + i % 5 = i by omega] at h3
    have h5 : i % 5 = 0 ∨ i % 5 = 1 ∨ i % 5 = 2 ∨ i % 5 = 3 ∨ i % 5 = 4 := by omega
    have h4 : (madeCells (#[.int .i64 0, .int .u8 0, .int .i64 0, .int .i64 0, .int .i64 0] : Array Value) (N * 5))[i]? = Ev.zero.cells[i % 5]? := by
      unfold madeCells
      rw [Array.getElem?_map, Array.getElem?_range, if_pos h1]
      show some ((#[.int .i64 0, .int .u8 0, .int .i64 0, .int .i64 0, .int .i64 0] : Array Value)[i % 5]!) = _
      rcases h5 with h | h | h | h | h <;> rw [h] <;> rfl
    rw [← h3] at h4
    rw [Array.getElem?_eq_getElem (by rw [size_madeCells]; exact h1), List.getElem?_eq_getElem (by simpa using h2)] at h4
    exact Option.some.inj h4
theorem run_makeE (w : World) (kl kc : IntKind) (N : Nat) (hN : N ≤ 1048577) :
    (Instr.makeSlice 60 (.int kl (N : Int)) (.int kc (N : Int))).run Try.prog w = .ok (.slice (some ⟨w.heap.size, 0, none⟩) N N) (w.alloc (.cells ((List.replicate N Ev.zero).flatMap Ev.cells).toArray 54)) := by
  obtain ⟨i0, h2, h3, h4, h5⟩ := info_parts infoEv
  have hr := run_make (P := Try.prog) w 60 54 i0 (.agg #[.int .i64 0, .int .u8 0, .int .i64 0, .int .i64 0, .int .i64 0]) Try.underlying60 h2 h3 kl kc N N (by omega) (Int.le_refl _) (by rw [h5]; omega) (by omega)
  rw [h4] at hr
  have e1 : (Value.agg #[.int .i64 0, .int .u8 0, .int .i64 0, .int .i64 0, .int .i64 0]).cells = #[.int .i64 0, .int .u8 0, .int .i64 0, .int .i64 0, .int .i64 0] := rfl
  rw [e1, Int.toNat_natCast, madeE] at hr
  exact hr
theorem sums_in : ∀ (ds : List Int) (n : Int), ∀ x ∈ sums n ds, In64 x
  | [], _, _, h => by cases h
  | d :: ds, n, x, h => by
    rcases List.mem_cons.1 (show x ∈ wrap64 (n + d) :: sums (wrap64 (n + d)) ds from h) with rfl | h
    · exact wrap64_in _
    · exact sums_in ds _ x h
theorem zip_ok (c : Nat) : ∀ (es : List Ev) (xs : List Int), (∀ e ∈ es, e.ok) → (∀ x ∈ xs, In64 x) → ∀ y ∈ List.zipWith (colSet c) es xs, y.ok
  | [], _, _, _, y, h => by simp at h
  | _ :: _, [], _, _, y, h => by simp at h
  | e :: es, x :: xs, h1, h2, y, h => by
    rw [List.zipWith_cons_cons] at h
    rcases List.mem_cons.1 h with rfl | h
    · exact colSet_ok (h1 e (by simp)) (h2 x (by simp)) c
    · exact zip_ok c es xs (fun z hz => h1 z (by simp [hz])) (fun z hz => h2 z (by simp [hz])) y h
theorem rdCol_ok {c : Nat} {b : List UInt8} {k : Nat} {es es' : List Ev} {k' : Nat} (hok : ∀ x ∈ es, x.ok) (h : rdCol c b k es = some (es', k')) : es'.length = es.length ∧ ∀ x ∈ es', x.ok := by
  obtain ⟨rs, r, _, _, g3, _, _, _, _, g8⟩ := rdColF_sound c b _ k 0 0 0 es es' k' h
  refine ⟨?_, ?_⟩
  · rw [g8, List.length_zipWith, sums_length, g3, Nat.min_self]
  · rw [g8]
    exact zip_ok c es _ hok (sums_in _ _)
theorem own_of_evB {w : World} {base g : Nat} {es : List Ev} {N : Nat} (h : EvB w g es) (hb : base ≤ g) (hN : es.length = N) (hm : N ≤ 1048576) (h1 : 1 ≤ N) : OwnE w base (.slice (some ⟨g, 0, none⟩) N N) es := by
  refine ⟨by rw [flat_len], .inr ⟨g, N, _, by rw [hN], hb, h, by omega, by unfold maxLen; omega, by rw [List.size_toArray, flat_len, hN], ?_⟩⟩
  rw [List.toList_toArray, List.take_of_length_le (by rw [flat_len]; exact Nat.le_refl _)]
set_option maxRecDepth 100000 in
set_option maxHeartbeats 4000000 in
theorem unpacked_any (A : Option Addr) (n c : Nat) (b : List UInt8) (w : World) (h : IsB w A n c b) (hn : n ≤ 1000000) :
    Calls Try.prog 91 #[.slice A n c] w fun e w' =>
      ((rdDense b = none ∧ ∃ x v, e = .returned (.tuple #[x, v, .bool false])) ∨ (∃ first es v, rdDense b = some (first, es) ∧ e = .returned (.tuple #[.int .i64 (first : Int), v, .bool true]) ∧ OwnE w' w.heap.size v es)) ∧ Below w.heap.size w w' := by
  have HB := Lib.hid (readBegin_any A n c b denseMark ⟨#[65, 77, 68, 49]⟩ w h hn rfl rfl)
  have hlen := h.len
  have hun : rdDense b = (if (rdBegin denseMark b).2.2 ≠ 0 then none
  else if (getU (b.drop (rdBegin denseMark b).2.1)).2.2 ≠ 0 ∨ (getU (b.drop (rdBegin denseMark b).2.1)).1 = 0 ∨ 1048576 < (getU (b.drop (rdBegin denseMark b).2.1)).1 then none
  else match rdCols b [0, 1, 2, 3, 4] ((rdBegin denseMark b).2.1 + (getU (b.drop (rdBegin denseMark b).2.1)).2.1) (List.replicate (getU (b.drop (rdBegin denseMark b).2.1)).1 Ev.zero) with
    | none => none
    | some r => if r.2 = b.length then some ((rdBegin denseMark b).1, r.1) else none) := rfl
  have hsound : (rdBegin denseMark b).2.2 = 0 → (rdBegin denseMark b).2.1 ≤ n := fun h0 => by
    obtain ⟨_, r, h1, h2⟩ := rdBegin_sound rfl h0
    have h3 := congrArg List.length h1
    rw [List.length_append, ← h2, hlen] at h3
    omega
  have ha9 : (rdBegin denseMark b).2.2 = 0 → b ≠ [] := fun h0 hb => by
    rw [hb] at h0
    revert h0
    decide
  generalize rdBegin denseMark b = q at HB hsound hun ha9
  obtain ⟨first, a, f⟩ := q
  simp only at HB hsound hun ha9
  obtain ⟨tot, htot⟩ : ∃ t, Hid (rdDense b = t) := ⟨_, rfl⟩
  rw [htot.out]
  by_cases hf : f ≠ 0
  · rw [if_pos hf, htot.out] at hun
    have d1 : ((f : Int) != 0) = true := by simp; omega
    have HUN := Lib.hid hun
    clear h hsound hf hun
    go_enter Try.func91, Try.ntmps91
    go_wp2_with fail
    refine HB.out.mono ?_
    rintro e w' ⟨rfl, rfl⟩
    go_wp2_with fail
    refine bodyPost_ret (v := .tuple #[.int .i64 0, .slice none 0 0, .bool false]) (by simp [results, Try.results91, go_sem]) rfl ⟨.inl ⟨HUN.out, _, _, rfl⟩, Below.refl _ _⟩
  · have hf : f = 0 := by omega
    subst hf
    rw [if_neg (by simp), htot.out] at hun
    have ha := hsound rfl
    have hb9 := ha9 rfl
    have d1 : (((0 : Nat) : Int) != 0) = false := by simp
    have hG := getUint_any A n c a b w h (by omega) ha
    have hs := fun (h0 : (getU (b.drop a)).2.2 = 0) => getU_sound (show getU (b.drop a) = ((getU (b.drop a)).1, (getU (b.drop a)).2.1, 0) from Prod.ext rfl (Prod.ext rfl h0))
    have hl := getU_lt (b.drop a)
    generalize getU (b.drop a) = q at hG hs hun hl
    obtain ⟨N, j, f⟩ := q
    unfold ansU nextU at hG
    simp only at hG hs hun hl
    by_cases hf2 : f ≠ 0
    · rw [if_pos (.inl hf2)] at hun
      rw [if_neg hf2] at hG
      have d2 : ((f : Int) != 0) = true := by simp; omega
      have HUN := Lib.hid hun
      have HG := Lib.hid hG
      clear h hsound hf2 hun hG hs
      go_enter Try.func91, Try.ntmps91
      go_wp2_with fail
      refine HB.out.mono ?_
      rintro e w' ⟨rfl, rfl⟩
      go_wp2_with fail
      refine HG.out.mono ?_
      rintro e w' ⟨rfl, rfl⟩
      go_wp2_with fail
      refine bodyPost_ret (v := .tuple #[.int .i64 0, .slice none 0 0, .bool false]) (by simp [results, Try.results91, go_sem]) rfl ⟨.inl ⟨HUN.out, _, _, rfl⟩, Below.refl _ _⟩
    · have hf2 : f = 0 := by omega
      subst hf2
      rw [if_pos rfl] at hG
      by_cases hN0 : N = 0
      · rw [if_pos (.inr (.inl hN0))] at hun
        subst hN0
        have HUN := Lib.hid hun
        have HG := Lib.hid hG
        clear h hsound hun hG hs
        go_enter Try.func91, Try.ntmps91
        go_wp2_with fail
        refine HB.out.mono ?_
        rintro e w' ⟨rfl, rfl⟩
        go_wp2_with fail
        refine HG.out.mono ?_
        rintro e w' ⟨rfl, rfl⟩
        go_wp2_with fail
        refine bodyPost_ret (v := .tuple #[.int .i64 0, .slice none 0 0, .bool false]) (by simp [results, Try.results91, go_sem]) rfl ⟨.inl ⟨HUN.out, _, _, rfl⟩, Below.refl _ _⟩
      · have d3 : ((N : Int) == 0) = false := beq_eq_false_iff_ne.2 (by omega)
        by_cases hbig : 1048576 < N
        · rw [if_pos (.inr (.inr hbig))] at hun
          have d4 : decide ((1048576 : Int) < (N : Int)) = true := decide_eq_true (by omega)
          have HUN := Lib.hid hun
          have HG := Lib.hid hG
          clear h hsound hun hG hs hN0 hbig
          go_enter Try.func91, Try.ntmps91
          go_wp2_with fail
          refine HB.out.mono ?_
          rintro e w' ⟨rfl, rfl⟩
          go_wp2_with fail
          refine HG.out.mono ?_
          rintro e w' ⟨rfl, rfl⟩
          go_wp2_with fail
          refine bodyPost_ret (v := .tuple #[.int .i64 0, .slice none 0 0, .bool false]) (by simp [results, Try.results91, go_sem]) rfl ⟨.inl ⟨HUN.out, _, _, rfl⟩, Below.refl _ _⟩
        · rw [if_neg (by omega)] at hun
          have d4 : decide ((1048576 : Int) < (N : Int)) = false := decide_eq_false (by omega)
          obtain ⟨r0, hr1, hr2⟩ := hs rfl
          have hkj : a + j ≤ n := by
            have := congrArg List.length hr1
            rw [List.length_drop, List.length_append, ← hr2] at this
            omega
          have HUN := Lib.hid hun
          have HG := Lib.hid hG
          have HIB := Lib.hid h
          have hag : ∀ ad, A = some ad → ad.block ≠ w.heap.size := fun ad had => by
            rcases HIB.out.src with h0 | ⟨b', o, hA, hc⟩
            · exact absurd h0 hb9
            · rw [had] at hA
              injection hA with hA
              obtain ⟨u, us, hbu⟩ := List.exists_cons_of_ne_nil hb9
              have h1 := hc 0 u (by rw [hbu]; rfl)
              have h2 := block_lt_of_cell h1
              have h3 : b' < w.heap.size := h2
              rw [hA]
              show b' ≠ _
              omega
          have HAG := Lib.hid hag
          have hmk := fun W : World => run_makeE W .u64 .u64 N (by omega)
          obtain ⟨R, hR⟩ : ∃ R, Hid (rdCols b [0, 1, 2, 3, 4] (a + j) (List.replicate N Ev.zero) = R) := ⟨_, rfl⟩
          have hb1 : Below w.heap.size w (w.alloc (.cells ((List.replicate N Ev.zero).flatMap Ev.cells).toArray 54)) := (Below.refl _ _).alloc (Nat.le_refl _) _
          have hE1 : EvB (w.alloc (.cells ((List.replicate N Ev.zero).flatMap Ev.cells).toArray 54)) w.heap.size (List.replicate N Ev.zero) := heap_alloc_new _ _
          have HB1 := Lib.hid hb1
          have HE1 := Lib.hid hE1
          have HC := Lib.hid (columns_any (w.alloc (.cells ((List.replicate N Ev.zero).flatMap Ev.cells).toArray 54)))
          have hNm : N ≤ 1048576 := by omega
          clear h hsound hun hG hs hr1 hr2 hag hb1 hE1 ha9 hb9
          go_enter Try.func91, Try.ntmps91
          go_wp2_with fail
          refine HB.out.mono ?_
          rintro e w' ⟨rfl, rfl⟩
          go_wp2_with fail
          refine HG.out.mono ?_
          rintro e w' ⟨rfl, rfl⟩
          go_wp2_with fail
          refine HC.out.mono ?_
          rintro e w3 ⟨rfl, hb3⟩
          have hB3 := HB1.out.trans (hb3.mono HB1.out.size)
          have hE3 := HE1.out.away (Away.of_new hb3 (fun _ => False)) (fun f => f)
          have HB3 := Lib.hid hB3
          have HE3 := Lib.hid hE3
          clear hb3 hB3 hE3 HC HB1 HE1 HB HG
          go_wp2_with fail
          go_loopw [6, 41] (fun at_ q wr => ∃ (i k' : Nat) (es : List Ev), q = .int .i64 (i : Int) ∧ i ≤ 5 ∧ at_ = .int .i64 (k' : Int) ∧ k' ≤ n ∧ EvB wr w.heap.size es ∧ Hid (es.length = N) ∧ Hid (∀ x ∈ es, x.ok) ∧ Hid (rdCols b (List.drop i [0, 1, 2, 3, 4]) k' es = R) ∧ Below w.heap.size w wr)
            (fun _ q _ => 5 - (intOf q).toNat)
          case atStart => exact ⟨0, a + j, _, rfl, by omega, by go_num, hkj, HE3.out, by show _ = _; rw [List.length_replicate], (fun x hx => by rw [(List.mem_replicate.1 hx).2]; exact Ev.zero_ok), hR.out, HB3.out⟩
          case round =>
            obtain ⟨i, k', es, rfl, hi5, rfl, hk', hE, hel, hok, hq, hBr⟩ := hrel
            have hIr := HIB.out.below hBr
            have hsz := hBr.size
            have HBr := Lib.hid hBr
            clear hBr
            by_cases hi : i < 5
            · obtain rfl | rfl | rfl | rfl | rfl : i = 0 ∨ i = 1 ∨ i = 2 ∨ i = 3 ∨ i = 4 := by omega
              · -- the column 0
                have hbw : Below wr.heap.size wr (wr.alloc (.cells #[fnV 110, fnV 111] 133)) := (Below.refl _ _).alloc (Nat.le_refl _) _
                have hp := read_0 (w := (wr.alloc (.cells #[fnV 110, fnV 111] 133))) (hIr.below hbw) hn hk' (hE.away (Away.of_new hbw (fun _ => False)) (fun f => f)) hel.out (Nat.le_refl N) (by omega) (fun x hx => (hok.out x hx).op) (fun ad had _ => HAG.out ad had)
                have hix : ∀ W : World, (Instr.index 134 (.agg #[fnV 110, fnV 111, fnV 112, fnV 113, fnV 114, fnV 115, fnV 116, fnV 117, fnV 118, fnV 119]) (.int .i64 0)).run Try.prog W = .ok (.agg #[fnV 110, fnV 111]) W := fun W => by rfl
                have HP := Lib.hid hp
                have HBW := Lib.hid (HBr.out.trans (hbw.mono HBr.out.size))
                clear hE hp hIr hbw
                go_wp2_with fail
                refine HP.out.mono ?_
                rintro e w2 ⟨hres, ha2⟩
                have hB2 := HBW.out.trans (ha2.below (B := w.heap.size) HBW.out.size fun b hb => by subst hb; exact Nat.le_refl _)
                have HB2 := Lib.hid hB2
                clear hB2 ha2 HP
                rcases hres with ⟨hno, rfl⟩ | ⟨es2, k2, hyes, rfl, hE2, hk2⟩
                · have ht2 : Hid (tot = none) := by
                    show _ = _
                    rw [HUN.out, hR.out, ← hq.out]
                    show (match (match rdCol 0 b k' es with
                      | none => none
                      | some r => rdCols b [1, 2, 3, 4] r.2 r.1) with
                      | none => none
                      | some r => if r.2 = b.length then some (first, r.1) else none) = none
                    rw [hno]
                  clear hno hR HUN hq
                  go_wp2_with fail
                  refine bodyPost_ret (v := .tuple #[.int .i64 0, .slice none 0 0, .bool false]) (by simp [results, Try.results91, go_sem]) rfl ⟨.inl ⟨ht2.out, _, _, rfl⟩, HB2.out⟩
                · have hok2 := rdCol_ok hok.out hyes
                  have hel2 : Hid (es2.length = N) := by show _ = _; rw [hok2.1, hel.out]
                  have hok3 : Hid (∀ x ∈ es2, x.ok) := hok2.2
                  have hq2 : Hid (rdCols b (List.drop 1 [0, 1, 2, 3, 4]) k2 es2 = R) := by
                    show _ = _
                    rw [← hq.out]
                    show _ = (match rdCol 0 b k' es with
                      | none => none
                      | some r => rdCols b [1, 2, 3, 4] r.2 r.1)
                    rw [hyes]
                    rfl
                  have HE2 := Lib.hid hE2
                  clear hyes hok2 hq hE2 hok hel
                  go_wp2_with fail
                  go_roundw
                  case rel => exact ⟨1, k2, es2, rfl, by omega, rfl, hk2, HE2.out, hel2, hok3, hq2, HB2.out⟩
                  case measure => simp [intOf]
              · -- the column 1
                have hbw : Below wr.heap.size wr (wr.alloc (.cells #[fnV 112, fnV 113] 133)) := (Below.refl _ _).alloc (Nat.le_refl _) _
                have hp := read_1 (w := (wr.alloc (.cells #[fnV 112, fnV 113] 133))) (hIr.below hbw) hn hk' (hE.away (Away.of_new hbw (fun _ => False)) (fun f => f)) hel.out (Nat.le_refl N) (by omega) (fun x hx => (hok.out x hx).op) (fun ad had _ => HAG.out ad had)
                have hix : ∀ W : World, (Instr.index 134 (.agg #[fnV 110, fnV 111, fnV 112, fnV 113, fnV 114, fnV 115, fnV 116, fnV 117, fnV 118, fnV 119]) (.int .i64 1)).run Try.prog W = .ok (.agg #[fnV 112, fnV 113]) W := fun W => by rfl
                have HP := Lib.hid hp
                have HBW := Lib.hid (HBr.out.trans (hbw.mono HBr.out.size))
                clear hE hp hIr hbw
                go_wp2_with fail
                refine HP.out.mono ?_
                rintro e w2 ⟨hres, ha2⟩
                have hB2 := HBW.out.trans (ha2.below (B := w.heap.size) HBW.out.size fun b hb => by subst hb; exact Nat.le_refl _)
                have HB2 := Lib.hid hB2
                clear hB2 ha2 HP
                rcases hres with ⟨hno, rfl⟩ | ⟨es2, k2, hyes, rfl, hE2, hk2⟩
                · have ht2 : Hid (tot = none) := by
                    show _ = _
                    rw [HUN.out, hR.out, ← hq.out]
                    show (match (match rdCol 1 b k' es with
                      | none => none
                      | some r => rdCols b [2, 3, 4] r.2 r.1) with
                      | none => none
                      | some r => if r.2 = b.length then some (first, r.1) else none) = none
                    rw [hno]
                  clear hno hR HUN hq
                  go_wp2_with fail
                  refine bodyPost_ret (v := .tuple #[.int .i64 0, .slice none 0 0, .bool false]) (by simp [results, Try.results91, go_sem]) rfl ⟨.inl ⟨ht2.out, _, _, rfl⟩, HB2.out⟩
                · have hok2 := rdCol_ok hok.out hyes
                  have hel2 : Hid (es2.length = N) := by show _ = _; rw [hok2.1, hel.out]
                  have hok3 : Hid (∀ x ∈ es2, x.ok) := hok2.2
                  have hq2 : Hid (rdCols b (List.drop 2 [0, 1, 2, 3, 4]) k2 es2 = R) := by
                    show _ = _
                    rw [← hq.out]
                    show _ = (match rdCol 1 b k' es with
                      | none => none
                      | some r => rdCols b [2, 3, 4] r.2 r.1)
                    rw [hyes]
                    rfl
                  have HE2 := Lib.hid hE2
                  clear hyes hok2 hq hE2 hok hel
                  go_wp2_with fail
                  go_roundw
                  case rel => exact ⟨2, k2, es2, rfl, by omega, rfl, hk2, HE2.out, hel2, hok3, hq2, HB2.out⟩
                  case measure => simp [intOf]
              · -- the column 2
                have hbw : Below wr.heap.size wr (wr.alloc (.cells #[fnV 114, fnV 115] 133)) := (Below.refl _ _).alloc (Nat.le_refl _) _
                have hp := read_2 (w := (wr.alloc (.cells #[fnV 114, fnV 115] 133))) (hIr.below hbw) hn hk' (hE.away (Away.of_new hbw (fun _ => False)) (fun f => f)) hel.out (Nat.le_refl N) (by omega) (fun x hx => (hok.out x hx).op) (fun ad had _ => HAG.out ad had)
                have hix : ∀ W : World, (Instr.index 134 (.agg #[fnV 110, fnV 111, fnV 112, fnV 113, fnV 114, fnV 115, fnV 116, fnV 117, fnV 118, fnV 119]) (.int .i64 2)).run Try.prog W = .ok (.agg #[fnV 114, fnV 115]) W := fun W => by rfl
                have HP := Lib.hid hp
                have HBW := Lib.hid (HBr.out.trans (hbw.mono HBr.out.size))
                clear hE hp hIr hbw
                go_wp2_with fail
                refine HP.out.mono ?_
                rintro e w2 ⟨hres, ha2⟩
                have hB2 := HBW.out.trans (ha2.below (B := w.heap.size) HBW.out.size fun b hb => by subst hb; exact Nat.le_refl _)
                have HB2 := Lib.hid hB2
                clear hB2 ha2 HP
                rcases hres with ⟨hno, rfl⟩ | ⟨es2, k2, hyes, rfl, hE2, hk2⟩
                · have ht2 : Hid (tot = none) := by
                    show _ = _
                    rw [HUN.out, hR.out, ← hq.out]
                    show (match (match rdCol 2 b k' es with
                      | none => none
                      | some r => rdCols b [3, 4] r.2 r.1) with
                      | none => none
                      | some r => if r.2 = b.length then some (first, r.1) else none) = none
                    rw [hno]
                  clear hno hR HUN hq
                  go_wp2_with fail
                  refine bodyPost_ret (v := .tuple #[.int .i64 0, .slice none 0 0, .bool false]) (by simp [results, Try.results91, go_sem]) rfl ⟨.inl ⟨ht2.out, _, _, rfl⟩, HB2.out⟩
                · have hok2 := rdCol_ok hok.out hyes
                  have hel2 : Hid (es2.length = N) := by show _ = _; rw [hok2.1, hel.out]
                  have hok3 : Hid (∀ x ∈ es2, x.ok) := hok2.2
                  have hq2 : Hid (rdCols b (List.drop 3 [0, 1, 2, 3, 4]) k2 es2 = R) := by
                    show _ = _
                    rw [← hq.out]
                    show _ = (match rdCol 2 b k' es with
                      | none => none
                      | some r => rdCols b [3, 4] r.2 r.1)
                    rw [hyes]
                    rfl
                  have HE2 := Lib.hid hE2
                  clear hyes hok2 hq hE2 hok hel
                  go_wp2_with fail
                  go_roundw
                  case rel => exact ⟨3, k2, es2, rfl, by omega, rfl, hk2, HE2.out, hel2, hok3, hq2, HB2.out⟩
                  case measure => simp [intOf]
              · -- the column 3
                have hbw : Below wr.heap.size wr (wr.alloc (.cells #[fnV 116, fnV 117] 133)) := (Below.refl _ _).alloc (Nat.le_refl _) _
                have hp := read_3 (w := (wr.alloc (.cells #[fnV 116, fnV 117] 133))) (hIr.below hbw) hn hk' (hE.away (Away.of_new hbw (fun _ => False)) (fun f => f)) hel.out (Nat.le_refl N) (by omega) (fun x hx => (hok.out x hx).op) (fun ad had _ => HAG.out ad had)
                have hix : ∀ W : World, (Instr.index 134 (.agg #[fnV 110, fnV 111, fnV 112, fnV 113, fnV 114, fnV 115, fnV 116, fnV 117, fnV 118, fnV 119]) (.int .i64 3)).run Try.prog W = .ok (.agg #[fnV 116, fnV 117]) W := fun W => by rfl
                have HP := Lib.hid hp
                have HBW := Lib.hid (HBr.out.trans (hbw.mono HBr.out.size))
                clear hE hp hIr hbw
                go_wp2_with fail
                refine HP.out.mono ?_
                rintro e w2 ⟨hres, ha2⟩
                have hB2 := HBW.out.trans (ha2.below (B := w.heap.size) HBW.out.size fun b hb => by subst hb; exact Nat.le_refl _)
                have HB2 := Lib.hid hB2
                clear hB2 ha2 HP
                rcases hres with ⟨hno, rfl⟩ | ⟨es2, k2, hyes, rfl, hE2, hk2⟩
                · have ht2 : Hid (tot = none) := by
                    show _ = _
                    rw [HUN.out, hR.out, ← hq.out]
                    show (match (match rdCol 3 b k' es with
                      | none => none
                      | some r => rdCols b [4] r.2 r.1) with
                      | none => none
                      | some r => if r.2 = b.length then some (first, r.1) else none) = none
                    rw [hno]
                  clear hno hR HUN hq
                  go_wp2_with fail
                  refine bodyPost_ret (v := .tuple #[.int .i64 0, .slice none 0 0, .bool false]) (by simp [results, Try.results91, go_sem]) rfl ⟨.inl ⟨ht2.out, _, _, rfl⟩, HB2.out⟩
                · have hok2 := rdCol_ok hok.out hyes
                  have hel2 : Hid (es2.length = N) := by show _ = _; rw [hok2.1, hel.out]
                  have hok3 : Hid (∀ x ∈ es2, x.ok) := hok2.2
                  have hq2 : Hid (rdCols b (List.drop 4 [0, 1, 2, 3, 4]) k2 es2 = R) := by
                    show _ = _
                    rw [← hq.out]
                    show _ = (match rdCol 3 b k' es with
                      | none => none
                      | some r => rdCols b [4] r.2 r.1)
                    rw [hyes]
                    rfl
                  have HE2 := Lib.hid hE2
                  clear hyes hok2 hq hE2 hok hel
                  go_wp2_with fail
                  go_roundw
                  case rel => exact ⟨4, k2, es2, rfl, by omega, rfl, hk2, HE2.out, hel2, hok3, hq2, HB2.out⟩
                  case measure => simp [intOf]
              · -- the column 4
                have hbw : Below wr.heap.size wr (wr.alloc (.cells #[fnV 118, fnV 119] 133)) := (Below.refl _ _).alloc (Nat.le_refl _) _
                have hp := read_4 (w := (wr.alloc (.cells #[fnV 118, fnV 119] 133))) (hIr.below hbw) hn hk' (hE.away (Away.of_new hbw (fun _ => False)) (fun f => f)) hel.out (Nat.le_refl N) (by omega) (fun x hx => (hok.out x hx).op) (fun ad had _ => HAG.out ad had)
                have hix : ∀ W : World, (Instr.index 134 (.agg #[fnV 110, fnV 111, fnV 112, fnV 113, fnV 114, fnV 115, fnV 116, fnV 117, fnV 118, fnV 119]) (.int .i64 4)).run Try.prog W = .ok (.agg #[fnV 118, fnV 119]) W := fun W => by rfl
                have HP := Lib.hid hp
                have HBW := Lib.hid (HBr.out.trans (hbw.mono HBr.out.size))
                clear hE hp hIr hbw
                go_wp2_with fail
                refine HP.out.mono ?_
                rintro e w2 ⟨hres, ha2⟩
                have hB2 := HBW.out.trans (ha2.below (B := w.heap.size) HBW.out.size fun b hb => by subst hb; exact Nat.le_refl _)
                have HB2 := Lib.hid hB2
                clear hB2 ha2 HP
                rcases hres with ⟨hno, rfl⟩ | ⟨es2, k2, hyes, rfl, hE2, hk2⟩
                · have ht2 : Hid (tot = none) := by
                    show _ = _
                    rw [HUN.out, hR.out, ← hq.out]
                    show (match (match rdCol 4 b k' es with
                      | none => none
                      | some r => rdCols b [] r.2 r.1) with
                      | none => none
                      | some r => if r.2 = b.length then some (first, r.1) else none) = none
                    rw [hno]
                  clear hno hR HUN hq
                  go_wp2_with fail
                  refine bodyPost_ret (v := .tuple #[.int .i64 0, .slice none 0 0, .bool false]) (by simp [results, Try.results91, go_sem]) rfl ⟨.inl ⟨ht2.out, _, _, rfl⟩, HB2.out⟩
                · have hok2 := rdCol_ok hok.out hyes
                  have hel2 : Hid (es2.length = N) := by show _ = _; rw [hok2.1, hel.out]
                  have hok3 : Hid (∀ x ∈ es2, x.ok) := hok2.2
                  have hq2 : Hid (rdCols b (List.drop 5 [0, 1, 2, 3, 4]) k2 es2 = R) := by
                    show _ = _
                    rw [← hq.out]
                    show _ = (match rdCol 4 b k' es with
                      | none => none
                      | some r => rdCols b [] r.2 r.1)
                    rw [hyes]
                    rfl
                  have HE2 := Lib.hid hE2
                  clear hyes hok2 hq hE2 hok hel
                  go_wp2_with fail
                  go_roundw
                  case rel => exact ⟨5, k2, es2, rfl, by omega, rfl, hk2, HE2.out, hel2, hok3, hq2, HB2.out⟩
                  case measure => simp [intOf]
            · obtain rfl : i = 5 := by omega
              have hq5 : R = some (es, k') := hq.out.symm
              have ht2 : Hid (tot = if k' = n then some (first, es) else none) := by
                show _ = _
                rw [HUN.out, hR.out, hq5, ← hlen]
              have hOW := own_of_evB hE (Nat.le_refl _) hel.out hNm (by omega)
              have HOW := Lib.hid hOW
              clear hq hq5 hE hOW hIr HUN
              by_cases hkn : k' = n
              · have d6 : ((k' : Int) == (n : Int)) = true := by rw [hkn]; simp
                rw [if_pos hkn] at ht2
                go_wp2_with fail
                refine bodyPost_ret (v := .tuple #[.int .i64 (first : Int), .slice (some ⟨w.heap.size, 0, none⟩) N N, .bool true]) (by simp [results, Try.results91, go_sem, d6]) rfl ⟨.inr ⟨first, es, _, ht2.out, rfl, HOW.out⟩, HBr.out⟩
              · have d6 : ((k' : Int) == (n : Int)) = false := beq_eq_false_iff_ne.2 (by omega)
                rw [if_neg hkn] at ht2
                go_wp2_with fail
                refine bodyPost_ret (v := .tuple #[.int .i64 (first : Int), .slice (some ⟨w.heap.size, 0, none⟩) N N, .bool false]) (by simp [results, Try.results91, go_sem, d6]) rfl ⟨.inl ⟨ht2.out, _, _, rfl⟩, HBr.out⟩
end Go.Proofs.Ytiockkphciadeaa
