/-
  Scan: what reads a segment's head, and the frames behind it.
-/
import Derived.Test.YtiockkphciadeaaK4
import Derived.Test.YtiockkphciadeaaK5
set_option linter.unusedVariables false
set_option linter.unusedSimpArgs false
namespace Go.Proofs.Ytiockkphciadeaa
open Go.RowKit
open Go.Lib (byteCells byteCells_length byteCells_append uvarint)

set_option maxRecDepth 100000 in
set_option maxHeartbeats 1000000 in
theorem readBegin_any (A : Option Addr) (n c : Nat) (l mk : List UInt8) (s : ByteArray) (w : World) (h : IsB w A n c l) (hn : n ≤ 1000000) (hm : mk.length = 4) (hs : s = ⟨mk.toArray⟩) :
    Calls Try.prog 108 #[.slice A n c, .string s] w fun e w' => e = .returned (.tuple #[.int .i64 ((rdBegin mk l).1 : Int), .int .i64 ((rdBegin mk l).2.1 : Int), .int .i64 ((rdBegin mk l).2.2 : Int)]) ∧ w = w' := by
  have hsz : s.size = 4 := by rw [hs]; simp [ByteArray.size, hm]
  obtain ⟨K, hK⟩ : ∃ K : Nat, Hid (K = min n 4) := ⟨_, rfl⟩
  have hKn : K ≤ n := by rw [hK.out]; omega
  have hK4 : K ≤ 4 := by rw [hK.out]; omega
  obtain ⟨t, ht⟩ : ∃ t : ByteArray, t = ⟨(l.take K).toArray⟩ := ⟨_, rfl⟩
  have hIT := h.take' hKn
  have f1 := conv_str w hIT ht
  have htz : t.size = K := by rw [ht]; simpa [ByteArray.size] using hIT.len
  have HT := Lib.hid ht
  have HS := Lib.hid hs
  have hmin : min (n : Int) 4 = (K : Int) := by rw [hK.out]; omega
  have hKc : K ≤ c := Nat.le_trans hKn h.cap
  have hlen := h.len
  have hb : Lib.hasPrefix s.data.toList t.data.toList = decide (mk.take l.length = l.take 4) := by
    rw [hs, ht]
    show Lib.hasPrefix mk (l.take K) = _
    have h1 : (l.take K).length = K := by rw [List.length_take]; omega
    rw [pre_take _ _ (by omega), h1]
    have h2 : mk.take K = mk.take l.length := by
      by_cases h4 : n < 4
      · rw [show K = l.length by rw [hK.out]; omega]
      · rw [List.take_of_length_le (by rw [hK.out]; omega), List.take_of_length_le (by omega)]
    have h3 : l.take K = l.take 4 := by
      by_cases h4 : n < 4
      · rw [List.take_of_length_le (by rw [hK.out]; omega), List.take_of_length_le (by omega)]
      · rw [show K = 4 by rw [hK.out]; omega]
    rw [h2, h3]
  have hp := pre_any s t w
  rw [hb] at hp
  by_cases hpre : mk.take l.length = l.take 4
  · rw [decide_eq_true hpre] at hp
    have HP := Lib.hid hp
    by_cases h4 : n < 4
    · have d1 : decide ((K : Int) < 4) = true := decide_eq_true (by rw [hK.out]; omega)
      have hr : rdBegin mk l = (0, 0, 11) := by unfold rdBegin; rw [if_neg (by simp [hpre]), if_pos (by omega)]
      rw [hr]
      clear h hs ht hb hp hlen hIT hr
      go_enter Try.func108, Try.ntmps108
      go_wp2_with fail
      refine HP.out.mono ?_
      rintro e w' ⟨rfl, rfl⟩
      go_wp2_with fail
      go_ret3
      exact ⟨rfl, rfl⟩
    · have d1 : decide ((K : Int) < 4) = false := decide_eq_false (by rw [hK.out]; omega)
      have hu := getUint_any A n c 4 l w h (by omega) (by omega)
      have hl := getU_lt (l.drop 4)
      have hr : rdBegin mk l = (if (getU (l.drop 4)).2.2 ≠ 0 then (0, 0, (getU (l.drop 4)).2.2) else if 4611686018427387904 < (getU (l.drop 4)).1 then (0, 0, 10) else ((getU (l.drop 4)).1, 4 + (getU (l.drop 4)).2.1, 0)) := by
        conv => lhs; unfold rdBegin; rw [if_neg (by simp [hpre]), if_neg (by omega)]
      rw [hr]
      clear hr
      generalize getU (l.drop 4) = q at hu hl
      obtain ⟨v, j, f⟩ := q
      simp only at hl ⊢
      unfold ansU nextU at hu
      simp only at hu
      by_cases hf : f ≠ 0
      · rw [if_pos hf]
        rw [if_neg hf] at hu
        have d2 : ((f : Int) != 0) = true := by simp; omega
        have HU := Lib.hid hu
        clear h hs ht hb hp hlen hIT hu
        go_enter Try.func108, Try.ntmps108
        go_wp2_with fail
        refine HP.out.mono ?_
        rintro e w' ⟨rfl, rfl⟩
        go_wp2_with fail
        refine HU.out.mono ?_
        rintro e w' ⟨rfl, rfl⟩
        go_wp2_with fail
        go_ret3
        exact ⟨rfl, rfl⟩
      · have hf : f = 0 := by omega
        subst hf
        rw [if_neg (by simp)]
        rw [if_pos rfl] at hu
        have d2 : (((0 : Nat) : Int) != 0) = false := by simp
        by_cases hbig : 4611686018427387904 < v
        · rw [if_pos hbig]
          have d3 : decide ((4611686018427387904 : Int) < (v : Int)) = true := decide_eq_true (by omega)
          have HU := Lib.hid hu
          clear h hs ht hb hp hlen hIT hu hbig
          go_enter Try.func108, Try.ntmps108
          go_wp2_with fail
          refine HP.out.mono ?_
          rintro e w' ⟨rfl, rfl⟩
          go_wp2_with fail
          refine HU.out.mono ?_
          rintro e w' ⟨rfl, rfl⟩
          go_wp2_with fail
          go_ret3
          exact ⟨rfl, rfl⟩
        · rw [if_neg hbig]
          have d3 : decide ((4611686018427387904 : Int) < (v : Int)) = false := decide_eq_false (by omega)
          have e3 := nat_i64 v (by omega)
          have HU := Lib.hid hu
          clear h hs ht hb hp hlen hIT hu hbig
          go_enter Try.func108, Try.ntmps108
          go_wp2_with fail
          refine HP.out.mono ?_
          rintro e w' ⟨rfl, rfl⟩
          go_wp2_with fail
          refine HU.out.mono ?_
          rintro e w' ⟨rfl, rfl⟩
          go_wp2_with fail
          go_ret3
          exact ⟨rfl, rfl⟩
  · rw [decide_eq_false hpre] at hp
    have HP := Lib.hid hp
    have hr : rdBegin mk l = (0, 0, 10) := by unfold rdBegin; rw [if_pos hpre]
    rw [hr]
    clear h hs ht hb hp hlen hIT hr
    go_enter Try.func108, Try.ntmps108
    go_wp2_with fail
    refine HP.out.mono ?_
    rintro e w' ⟨rfl, rfl⟩
    go_wp2_with fail
    go_ret3
    exact ⟨rfl, rfl⟩
set_option maxRecDepth 100000 in
set_option maxHeartbeats 1000000 in
theorem readHead_any (A : Option Addr) (n c : Nat) (l : List UInt8) (w : World) (h : IsB w A n c l) (hn : n ≤ 1000000) :
    Calls Try.prog 86 #[.slice A n c] w fun e w' => e = .returned (.tuple #[.int .i64 ((rdHead l).1 : Int), .int .i64 ((rdHead l).2.1 : Int), .int .i64 ((rdHead l).2.2 : Int)]) ∧ Below w.heap.size w w' := by
  have HB := Lib.hid (readBegin_any A n c l headMark ⟨#[65, 77, 83, 49]⟩ w h hn rfl rfl)
  have hlen := h.len
  have hcap := h.cap
  have hsound : (rdBegin headMark l).2.2 = 0 → (rdBegin headMark l).2.1 ≤ n := fun h0 => by
    obtain ⟨_, r, h1, h2⟩ := rdBegin_sound rfl h0
    have h3 := congrArg List.length h1
    rw [List.length_append, ← h2, hlen] at h3
    omega
  have hun : rdHead l = (if (rdBegin headMark l).2.2 ≠ 0 then (0, 0, (rdBegin headMark l).2.2)
    else if l.length < (rdBegin headMark l).2.1 + 4 then (0, 0, 11)
    else if (l.drop (rdBegin headMark l).2.1).take 4 ≠ sumBytes (crc (l.take (rdBegin headMark l).2.1)) then (0, 0, 12)
    else ((rdBegin headMark l).1, (rdBegin headMark l).2.1 + 4, 0)) := rfl
  rw [hun]
  clear hun
  generalize rdBegin headMark l = q at HB hsound
  obtain ⟨v, a, f⟩ := q
  simp only at HB hsound ⊢
  by_cases hf : f ≠ 0
  · rw [if_pos hf]
    have d1 : ((f : Int) != 0) = true := by simp; omega
    clear h hsound
    go_enter Try.func86, Try.ntmps86
    go_wp2_with fail
    refine HB.out.mono ?_
    rintro e w' ⟨rfl, rfl⟩
    go_wp2_with fail
    go_ret3
    exact ⟨rfl, Below.refl _ _⟩
  · have hf : f = 0 := by omega
    subst hf
    rw [if_neg (by simp)]
    have hva := hsound rfl
    have d1 : (((0 : Nat) : Int) != 0) = false := by simp
    obtain ⟨E, hE⟩ : ∃ E : Nat, Hid (E = a + 4) := ⟨_, rfl⟩
    have wa : wrap64 ((a : Int) + 4) = (E : Int) := by rw [hE.out]; unfold wrap64; omega
    by_cases hsh : l.length < a + 4
    · rw [if_pos hsh]
      have d2 : decide ((n : Int) < (E : Int)) = true := decide_eq_true (by rw [hE.out]; omega)
      have d2' : n < E := by rw [hE.out]; omega
      clear h hsound hsh hva
      go_enter Try.func86, Try.ntmps86
      go_wp2_with fail
      refine HB.out.mono ?_
      rintro e w' ⟨rfl, rfl⟩
      go_wp2_with fail
      go_ret3
      exact ⟨rfl, Below.refl _ _⟩
    · rw [if_neg hsh]
      have d2 : decide ((n : Int) < (E : Int)) = false := decide_eq_false (by rw [hE.out]; omega)
      have d2' : ¬ n < E := by rw [hE.out]; omega
      have hEn : E ≤ n := by rw [hE.out]; omega
      have hEc : E ≤ c := by omega
      have hIT := h.take' hEn
      have hsplit : l.take E = l.take a ++ (l.drop a).take 4 := by rw [hE.out, List.take_add]
      rw [hsplit] at hIT
      have hU := unseal_any A E c _ w hIT (by omega)
      have h4 : ((l.drop a).take 4).length = 4 := by rw [List.length_take, List.length_drop]; omega
      have ha : (l.take a).length = a := by rw [List.length_take]; omega
      generalize l.take a = p at hU h4 ha hIT
      generalize (l.drop a).take 4 = s at hU h4 ha hIT
      have HU := Lib.hid hU
      have HE4 : Hid ((E : Int) = ((a + 4 : Nat) : Int)) := by show _ = _; rw [hE.out]
      clear h hsound hsh hva hsplit hU hlen
      by_cases hs : s ≠ sumBytes (crc p)
      · rw [if_pos hs]
        go_enter Try.func86, Try.ntmps86
        go_wp2_with fail
        refine HB.out.mono ?_
        rintro e w' ⟨rfl, rfl⟩
        go_wp2_with fail
        refine HU.out.mono ?_
        rintro e w2 ⟨hO, hb2⟩
        rcases hO with ⟨body', v', heq, rfl, hown⟩ | ⟨hno, rfl⟩
        · exfalso
          unfold sealed at heq
          have hl4 := congrArg List.length heq
          rw [List.length_append, List.length_append, sumBytes_length, h4] at hl4
          have := List.append_inj heq (by omega)
          exact hs (by rw [this.2, this.1])
        · have hx : (if (p ++ s).length < 4 then (11 : Int) else 12) = 12 := if_neg (by rw [List.length_append]; omega)
          rw [hx]
          clear hx hno hs
          go_wp2_with fail
          go_ret3
          exact ⟨rfl, hb2⟩
      · rw [if_neg hs]
        have hs : s = sumBytes (crc p) := Decidable.not_not.1 hs
        have HS := Lib.hid hs
        clear hs
        go_enter Try.func86, Try.ntmps86
        go_wp2_with fail
        refine HB.out.mono ?_
        rintro e w' ⟨rfl, rfl⟩
        go_wp2_with fail
        refine HU.out.mono ?_
        rintro e w2 ⟨hO, hb2⟩
        rcases hO with ⟨body', v', heq, rfl, hown⟩ | ⟨hno, rfl⟩
        · clear heq hown
          go_wp2_with fail
          refine bodyPost_ret (v := .tuple #[.int .i64 (v : Int), .int .i64 (E : Int), .int .i64 0]) (by simp [results, Try.results86, go_sem]) rfl ⟨by rw [HE4.out]; rfl, hb2⟩
        · exact absurd (by rw [HS.out]; rfl) (hno p)

theorem flat_len : ∀ es : List Ev, (es.flatMap Ev.cells).length = es.length * 5
  | [] => rfl
  | x :: r => by
    rw [List.flatMap_cons, List.length_append, flat_len r, List.length_cons]
    show 5 + _ = _
    omega
theorem isEv_flat {w : World} {b o n c : Nat} {es : List Ev} (h : IsEv w (some ⟨b, o, none⟩) n c es) (hn : 1 ≤ n) :
    ∀ j u, (es.flatMap Ev.cells)[j]? = some u → w.cell? ((⟨b, o, none⟩ : Addr).add j) = some u := by
  intro j u hj
  have hl := flat_len es
  have hj' := (List.getElem?_eq_some_iff.1 hj).1
  rw [hl] at hj'
  have hq : j / 5 < es.length := by omega
  have hx : es[j / 5]? = some (es[j / 5]) := List.getElem?_eq_getElem hq
  rcases h.src with h0 | ⟨b', o', hA, hc⟩
  · have := h.len; rw [h0] at this; simp at this; omega
  · simp only [Option.some.injEq, Addr.mk.injEq] at hA
    obtain ⟨rfl, rfl, -⟩ := hA
    have h1 := flatEv es (j / 5) _ hx (j % 5) (by omega)
    rw [show j / 5 * 5 + j % 5 = j by omega, hj] at h1
    have h2 := hc (j / 5) _ hx (j % 5) u h1.symm
    rw [Addr.add_lit]
    rwa [show o + j / 5 * 5 + j % 5 = o + j by omega] at h2
theorem ev_one_flat (es : List Ev) : ∀ u ∈ es.flatMap Ev.cells, u.oneCell' = true := by
  intro u hu
  obtain ⟨x, _, hx⟩ := List.mem_flatMap.1 hu
  exact Ev.one x u hx
theorem oe_app {w : World} {base : Nat} {A : Option Addr} {n c : Nat} {es : List Ev} (h : OwnE w base (.slice A n c) es) (hb : base ≤ w.heap.size) (ty : TypeId) {B : Option Addr} {m d : Nat} {fs : List Ev}
    (hB : IsEv w B m d fs) (hm : 1 ≤ m) (hl : n + m ≤ 1000000) :
    ∃ v' w', (Builtin.append_ #[60, 60] ty #[.slice A n c, .slice B m d]).run Try.prog w = .ok v' w' ∧ ∃ A' c', v' = .slice A' (n + m) c' ∧ OwnE w' base (.slice A' (n + m) c') (es ++ fs) ∧
      Away (fun b => (Value.slice A n c).ownBlock = some b) w w' := by
  obtain ⟨i0, h2, h3, h4, h5⟩ := info_parts infoEv
  obtain ⟨b, o, rfl⟩ : ∃ b o, B = some ⟨b, o, none⟩ := by
    rcases hB.src with h0 | ⟨b, o, hA, _⟩
    · have := hB.len; rw [h0] at this; simp at this; omega
    · exact ⟨b, o, hA⟩
  have hn : n = es.length := by
    rcases h.2 with ⟨hv, hn⟩ | ⟨g, cap, cur, hv, _⟩
    · simp only [Value.slice.injEq] at hv; omega
    · simp only [Value.slice.injEq] at hv; omega
  have hfl : (fs.flatMap Ev.cells).length = m * 5 := by rw [flat_len, hB.len]
  obtain ⟨v', w', hr, hown, hgr, _, hat⟩ := run_append_own_at (P := Try.prog) (w := w) base 60 ty 54 i0 (.agg #[.int .i64 0, .int .u8 0, .int .i64 0, .int .i64 0, .int .i64 0]) 5 40 Try.underlying60 h2 h3 h4 h5 rfl (by decide) (.slice A n c) es.length (es.flatMap Ev.cells) h ⟨b, o, none⟩ m d (fs.flatMap Ev.cells) hfl
    (isEv_flat hB hm) (ev_one_flat fs) (by unfold maxLen; omega) (by omega) hb
  have hown2 := hown
  rcases hown2.2 with ⟨_, hn'⟩ | ⟨g, cap, cur, rfl, _, _, _⟩
  · omega
  refine ⟨_, w', hr, _, cap, by rw [hn], ?_, ?_⟩
  · unfold OwnE
    rw [List.flatMap_append, List.length_append, hn, hB.len]
    simpa using hown
  · exact (Away.of_grown hgr)
theorem rd_room {l : List UInt8} {k : Nat} (h : (rdFrame l k).2.2 = 0) : k + (rdFrame l k).1.length ≤ (rdFrame l k).2.1 := by
  obtain ⟨he, r, hd, hn⟩ := rdFrame_sound h
  have h1 := frameOf_length (rdFrame l k).1
  have h2 := encEvs_least (rdFrame l k).1 Ev.zero
  have h3 : (bodyOf (rdFrame l k).1).length = (uvarint (rdFrame l k).1.length).length + (encEvs Ev.zero (rdFrame l k).1).length := by
    unfold bodyOf; rw [List.length_append]
  omega

set_option maxRecDepth 100000 in
set_option maxHeartbeats 1000000 in
theorem Scan_any (A : Option Addr) (n c : Nat) (l : List UInt8) (w : World) (h : IsB w A n c l) (hn : n ≤ 1000000) :
    Calls Try.prog 38 #[.slice A n c] w fun e w' => (∃ v, e = .returned (.tuple #[.int .i64 ((scanOf l).1 : Int), v, .int .i64 ((scanOf l).2.2.1 : Int), .int .i64 ((scanOf l).2.2.2 : Int)]) ∧ OwnE w' w.heap.size v (scanOf l).2.1) ∧ Below w.heap.size w w' := by
  have HH := Lib.hid (readHead_any A n c l w h hn)
  have hun : scanOf l = (if (rdHead l).2.2 ≠ 0 then (0, [], 0, (rdHead l).2.2) else ((rdHead l).1, (scanAt l (rdHead l).2.1).1, (scanAt l (rdHead l).2.1).2, 0)) := rfl
  have hlen := h.len
  have hk0 : (rdHead l).2.2 = 0 → (rdHead l).2.1 ≤ n := fun h0 => by
    unfold rdHead at h0 ⊢
    split at h0
    · rename_i hx; exact absurd h0 hx
    · rename_i hx
      rw [if_neg hx]
      split at h0
      · simp at h0
      · rename_i hy
        rw [if_neg hy]
        split at h0
        · simp at h0
        · rename_i hz
          rw [if_neg hz]
          show _ + 4 ≤ n
          omega
  rw [hun]
  clear hun
  generalize rdHead l = q at HH hk0
  obtain ⟨first, k0, f⟩ := q
  simp only at HH hk0 ⊢
  by_cases hf : f ≠ 0
  · rw [if_pos hf]
    have d1 : ((f : Int) != 0) = true := by simp; omega
    clear h hk0
    go_enter Try.func38, Try.ntmps38
    go_wp2_with fail
    refine HH.out.mono ?_
    rintro e w' ⟨rfl, hb⟩
    go_wp2_with fail
    refine bodyPost_ret (v := .tuple #[.int .i64 0, .slice none 0 0, .int .i64 0, .int .i64 (f : Int)]) (by simp [results, Try.results38, go_sem]) rfl ⟨⟨_, rfl, OwnE.nil _ _⟩, hb⟩
  · have hf : f = 0 := by omega
    subst hf
    rw [if_neg (by simp)]
    have hk := hk0 rfl
    have d1 : (((0 : Nat) : Int) != 0) = false := by simp
    obtain ⟨tot, htot⟩ : ∃ t, Hid (scanAt l k0 = t) := ⟨_, rfl⟩
    rw [htot.out]
    have HIB := Lib.hid h
    clear hk0 h hlen
    go_enter Try.func38, Try.ntmps38
    go_wp2_with fail
    refine HH.out.mono ?_
    rintro e w1 ⟨rfl, hb1⟩
    have HB1 := Lib.hid hb1
    clear hb1 HH
    go_wp2_with fail
    go_loopw [7, 9] (fun at_ out wr => ∃ (k : Nat) (A' : Option Addr) (m c' : Nat) (es : List Ev), at_ = .int .i64 (k : Int) ∧ k ≤ n ∧ out = .slice A' m c' ∧ OwnE wr w.heap.size (.slice A' m c') es ∧ m ≤ k ∧ Hid ((es ++ (scanAt l k).1, (scanAt l k).2) = tot) ∧ Below w.heap.size w wr)
      (fun at_ _ _ => n - (intOf at_).toNat)
    case atStart => exact ⟨k0, none, 0, 0, [], rfl, hk, rfl, OwnE.nil _ _, Nat.zero_le _, htot, HB1.out⟩
    case round =>
      obtain ⟨k, A', m, c', es, rfl, hkn, rfl, hO, hmk, ht, hBr⟩ := hrel
      have hR := Read_any A n c k l wr (HIB.out.below hBr) hn hkn
      have hok := fun h0 => scanAt_ok (l := l) (k := k) h0
      have hno := fun h0 => scanAt_no (l := l) (k := k) h0
      have hnx := fun h0 => rd_next (l := l) (k := k) h0
      have hrm := fun h0 => rd_room (l := l) (k := k) h0
      have hll := HIB.out.len
      generalize rdFrame l k = q at hR hok hno hnx hrm
      obtain ⟨ev, nx, f⟩ := q
      simp only at hok hno hnx hrm
      have HR := Lib.hid hR
      have HO := Lib.hid hO
      have HBr := Lib.hid hBr
      clear hR hO hBr
      by_cases hf : f = 0
      · subst hf
        have HOK := Lib.hid (hok rfl)
        obtain ⟨h1, h2, h3⟩ := hnx rfl
        have h4 := hrm rfl
        have hev := h3.some_
        clear hok hno hnx hrm
        have d2 : (((0 : Nat) : Int) != 0) = false := by simp
        go_wp2_with fail
        refine HR.out.mono ?_
        rintro e w2 ⟨⟨v, rfl, hOv⟩, hb2⟩
        obtain ⟨B, b, d, rfl, hIv, hbl, -⟩ := hOv.is_
        have HBL : Hid (b = ev.length) := hbl
        have hbk : k + b ≤ nx := by rw [HBL.out]; exact h4
        have hb1 : 1 ≤ b := by rw [HBL.out]; exact hev
        clear hbl
        obtain ⟨v', w3, hap, A2, c2, rfl, hO2, ha2⟩ := oe_app (HO.out.below hb2) (Nat.le_trans HBr.out.size hb2.size) 60 hIv (by omega) (by omega)
        have hB3 := (HBr.out.trans (hb2.mono HBr.out.size)).trans (ha2.below (B := w.heap.size) (Nat.le_trans HBr.out.size hb2.size) fun b' hb' => (OwnE.type (HO.out.below hb2) hb').choose_spec.2)
        have ht2 : Hid (((es ++ ev) ++ (scanAt l nx).1, (scanAt l nx).2) = tot) := by
          show _ = _
          rw [← ht.out, HOK.out]
          simp only [List.append_assoc]
        have HO2 := Lib.hid hO2
        have HB3 := Lib.hid hB3
        clear hOv hIv hb2 hO2 ha2 hB3 h3
        go_wp2_with (at_builtin; refine wpList_run _ rfl (.tmp 34) (.tmp 35) 60 rfl (R := fun v' w' => v' = .slice A2 (m + b) c2 ∧ w' = w3) ⟨_, _, hap, rfl, rfl⟩ ?_; rintro v' w' ⟨rfl, rfl⟩)
        go_roundw
        case rel => exact ⟨nx, A2, m + b, c2, es ++ ev, rfl, by omega, rfl, HO2.out, by omega, ht2, HB3.out⟩
        case measure => simp [intOf]; omega
      · have HNO := Lib.hid (hno hf)
        clear hok hno hnx hrm
        have d2 : ((f : Int) != 0) = true := by simp; omega
        have ht2 : Hid (tot = (es, k)) := by
          show _ = _
          rw [← ht.out, HNO.out]
          simp
        clear hf
        go_wp2_with fail
        refine HR.out.mono ?_
        rintro e w2 ⟨⟨v, rfl, hOv⟩, hb2⟩
        have hO2 := HO.out.below hb2
        have hB2 := HBr.out.trans (hb2.mono HBr.out.size)
        clear hOv hb2
        go_wp2_with fail
        refine bodyPost_ret (v := .tuple #[.int .i64 (first : Int), .slice A' m c', .int .i64 (k : Int), .int .i64 0]) (by simp [results, Try.results38, go_sem]) rfl ⟨⟨.slice A' m c', ?_, ?_⟩, hB2⟩
        · rw [ht2.out]; rfl
        · rw [ht2.out]; exact hO2
end Go.Proofs.Ytiockkphciadeaa
