/-
  BytesPages: like, turns.
-/
import Derived.Test.YtdcflgblaljdeaaPages
import Derived.Test.YtdcflgblaljdeaaGetBlob
import Derived.Test.YtdcflgblaljdeaaUnseal
import Derived.Test.YtdcflgblaljdeaaRefA
set_option linter.unusedSimpArgs false
namespace Go.Proofs.Ytdcflgblaljdeaa
open Go.RowKit
open Go.Lib (byteCells byteCells_length byteCells_append uvarint)
set_option linter.unusedVariables false

/-- an entry by value -/
def entV (x : Ent) (B : Option Addr) (m d : Nat) : Value := .agg #[.int .u8 (x.kind : Int), .int .u64 (x.num : Int), .slice B m d]
theorem str_same {l m : List UInt8} {s t : ByteArray} (hs : s = ⟨l.toArray⟩) (ht : t = ⟨m.toArray⟩) : (s.toList == t.toList) = decide (l = m) := by
  subst hs; subst ht
  rw [Lib.toList_data, Lib.toList_data]
  by_cases h : l = m
  · subst h; simp
  · rw [decide_eq_false h]
    exact beq_false_of_ne fun hh => h (by simpa using hh)
theorem str_as' (w : World) {A : Option Addr} {n c : Nat} {l : List UInt8} (h : IsB w A n c l) {s : ByteArray} (hs : s = ⟨l.toArray⟩) :
    (convert 26 9 (.slice A n c)).run Try.prog w = .ok (.string s) w := by
  subst hs
  exact str_of w h

instance (x y : Ent) : Decidable (alike x y) := by unfold alike; infer_instance

set_option maxRecDepth 100000 in
set_option maxHeartbeats 1000000 in
theorem like_any (x y : Ent) (B : Option Addr) (m d : Nat) (B' : Option Addr) (m' d' : Nat) (w : World) (hx : IsB w B m d x.str) (hy : IsB w B' m' d' y.str) :
    Calls Try.prog 51 #[.agg #[.int .u8 (x.kind : Int), .int .u64 (x.num : Int), .slice B m d], .agg #[.int .u8 (y.kind : Int), .int .u64 (y.num : Int), .slice B' m' d']] w fun e w' =>
      e = .returned (.bool (decide (alike x y))) ∧ Below w.heap.size w w' := by
  by_cases k2 : x.kind % 3 = 2
  · have hd : ((x.kind : Int) % 3 == 2) = true := by simp; omega
    obtain ⟨s, hs⟩ : ∃ s : ByteArray, s = ⟨x.str.toArray⟩ := ⟨_, rfl⟩
    obtain ⟨t, ht⟩ : ∃ s : ByteArray, s = ⟨y.str.toArray⟩ := ⟨_, rfl⟩
    have hE := str_same hs ht
    have f1 := str_as' _ ((hx.alloc (.cells #[.int .u8 (x.kind : Int), .int .u64 (x.num : Int), .slice B m d] 89)).alloc (.cells #[.int .u8 (y.kind : Int), .int .u64 (y.num : Int), .slice B' m' d'] 89)) hs
    have f2 := str_as' _ ((hy.alloc (.cells #[.int .u8 (x.kind : Int), .int .u64 (x.num : Int), .slice B m d] 89)).alloc (.cells #[.int .u8 (y.kind : Int), .int .u64 (y.num : Int), .slice B' m' d'] 89)) ht
    have hA : decide (alike x y) = decide (x.str = y.str) := by unfold alike; simp [k2]
    rw [hA, ← hE]
    clear hE hs ht hA k2
    go_enter Try.func51, Try.ntmps51
    go_wp2_with fail
    go_ret
    exact ⟨rfl, ((Below.refl _ w).alloc (Nat.le_refl _) _).alloc (by simp) _⟩
  · have hd : ((x.kind : Int) % 3 == 2) = false := by simp; omega
    have hA : decide (alike x y) = ((x.num : Int) == (y.num : Int)) := by unfold alike; rw [Bool.eq_iff_iff]; simp [k2]; omega
    rw [hA]
    clear hA k2 hx hy
    go_enter Try.func51, Try.ntmps51
    go_wp2_with fail
    go_ret
    exact ⟨rfl, ((Below.refl _ w).alloc (Nat.le_refl _) _).alloc (by simp) _⟩

theorem signed_back {x : Ent} (h : x.num < 18446744073709551616) : IntKind.u64.wrap x.signed = (x.num : Int) := by
  have e : x.signed = (x.num : Int) ∨ x.signed = (x.num : Int) - 18446744073709551616 := by
    unfold Ent.signed
    by_cases hs : x.num < 9223372036854775808
    · exact .inl (IntWalk.i64_in _ (by omega))
    · exact .inr (by rw [IntKind.wrap_i64]; omega)
  rw [IntKind.wrap_u64]
  rcases e with e | e <;> rw [e] <;> omega
theorem own_far {w : World} {base : Nat} {e : TypeId} {v : Value} {l : List UInt8} (h : Own w base e v l) {p : Addr} (hp : p.block < base) (u : Value) : Own (w.setCell p u) base e v l := by
  unfold Own at h ⊢
  refine ⟨h.1, ?_⟩
  rcases h.2 with hn | ⟨g, cap, cur, rfl, hbg, hg, hr⟩
  · exact .inl hn
  · exact .inr ⟨g, cap, cur, rfl, hbg, (Below.heap_setCell w p u g (by omega)).trans hg, hr⟩
theorem pageOf_append (l m : List Ent) : pageOf (l ++ m) = pageOf l ++ pageOf m := by
  induction l with
  | nil => rfl
  | cons y r ih => simp [pageOf, ih, List.append_assoc]
theorem page_at {es : List Ent} {j : Nat} {x : Ent} (hx : es[j]? = some x) :
    (pageOf es).drop (pageOf (es.take j)).length = enc x ++ pageOf (es.drop (j + 1)) ∧ (pageOf (es.take (j + 1))).length = (pageOf (es.take j)).length + (enc x).length ∧ (pageOf (es.take j)).length + (enc x).length ≤ (pageOf es).length := by
  obtain ⟨hj, ex⟩ := List.getElem?_eq_some_iff.1 hx
  have e : pageOf es = pageOf (es.take j) ++ (enc x ++ pageOf (es.drop (j + 1))) := by
    conv => lhs; rw [← List.take_append_drop j es, List.drop_eq_getElem_cons hj, ex, pageOf_append]
    rfl
  refine ⟨by conv => lhs; rw [e, List.drop_left], ?_, ?_⟩
  · rw [List.take_succ_eq_append_getElem hj, pageOf_snoc, ex, List.length_append]
  · rw [e, List.length_append, List.length_append]; omega

theorem blob_at {l : List UInt8} {a : Nat} {t rest : List UInt8} (ht : t.length ≤ 100) (h : l.drop a = (uvarint t.length ++ t) ++ rest) (hle : a + (uvarint t.length ++ t).length ≤ l.length) :
    blobOf l a 1024 = (t, a + (uvarint t.length ++ t).length, 0) := by
  have hg : getU (l.drop a) = (t.length, (uvarint t.length).length, 0) := by rw [h, List.append_assoc]; exact getU_uvarint _ (by omega)
  rw [List.length_append] at hle ⊢
  unfold blobOf
  rw [hg]
  simp only [ne_eq, not_true_eq_false, if_false]
  rw [if_neg (by omega), if_neg (by omega), ← List.drop_drop, h, List.append_assoc, List.drop_left, List.take_left, Nat.add_assoc]

set_option maxRecDepth 100000 in
set_option maxHeartbeats 2000000 in
theorem turns_any (A : Option Addr) (n c : Nat) (es : List Ent) (w : World) (h : IsE w A n c es) (hn : n ≤ 25) (hwf : ∀ x ∈ es, x.wf) :
    Calls Try.prog 52 #[.slice A n c] w fun e w' =>
      e = .returned (.bool true) ∧ Below w.heap.size w w' := by
  have hlen := h.len
  have HL := Lib.hid hlen
  have hps := page_short es hwf
  go_enter Try.func52, Try.ntmps52
  go_wp2_with fail
  refine (page_any A n c es w h hn hwf).mono ?_
  rintro e w1 ⟨v, rfl, ho, hb1⟩
  obtain ⟨Ap, np, cp, rfl, hI⟩ := own_slice ho
  have hnp := hI.len
  clear ho
  go_wp2_with fail
  refine (seal_any Ap np cp (pageOf es) _ hI (by omega)).mono ?_
  rintro e w2 ⟨v, rfl, ho, hb2⟩
  obtain ⟨As, ns, cs, rfl, hS⟩ := own_slice ho
  have hns := hS.len
  have hB2 := bstep0 hb1 hb2
  clear ho hb1 hb2
  rw [List.length_append, sumBytes_length] at hns
  go_wp2_with fail
  refine (unseal_any As ns cs (sealed (pageOf es)) _ hS (by omega)).mono ?_
  rintro e w3 ⟨hop, hb3⟩
  rcases hop with ⟨body, v, hbody, rfl, ho⟩ | ⟨hno, _⟩
  rotate_left
  · exact absurd rfl (hno _)
  obtain rfl := sealed_inj hbody
  obtain ⟨Ab, nb, cb, rfl, hU⟩ := own_slice ho
  have hB3 := bstep0 hB2 hb3
  clear ho hb3 hB2 hbody
  go_wp2_with fail
  have hbE := h.below hB3
  have hnb := hU.len
  go_loopw [5, 20] (fun p q wr => ∃ (j a : Nat), q = .int .i64 (j : Int) ∧ j ≤ n ∧ p = .int .i64 (a : Int) ∧ Hid (a = (pageOf (es.take j)).length) ∧ IsE wr A n c es ∧ IsB wr Ab nb cb (pageOf es) ∧ Below w.heap.size w wr) (fun _ q _ => n - (intOf q).toNat)
  case atStart => exact ⟨0, 0, rfl, by omega, rfl, by rw [List.take_zero]; rfl, hbE, hU, hB3⟩
  case round =>
    clear hI hS hU hbE h hB3
    obtain ⟨j, a, rfl, hj, rfl, ha, hE, hU, hB⟩ := hrel
    by_cases hjn : j < n
    · obtain ⟨x, hx⟩ : ∃ x, es[j]? = some x := ⟨es[j]'(by omega), List.getElem?_eq_getElem _⟩
      obtain ⟨b, o, rfl, hc⟩ : ∃ b o, A = some ⟨b, o, none⟩ ∧ _ := by
        rcases hE.src with h0 | h0
        · rw [h0] at hlen; simp at hlen; omega
        · exact h0
      obtain ⟨c0, c1, B, m, d, c2, hb⟩ := hc j x hx
      have hd : decide ((j : Int) < (n : Int)) = true := decide_eq_true (by omega)
      obtain ⟨hdrop, hnext, hle⟩ := page_at hx
      rw [← ha.out] at hdrop hnext hle
      have hxw := hwf x (List.mem_of_getElem? hx)
      have hsg := signed_in x
      have HN : Hid (a + (enc x).length = (pageOf (es.take (j + 1))).length) := hnext.symm
      clear hc hx hnext
      by_cases k0 : x.kind % 3 = 0
      · have d0 : ((x.kind : Int) % 3 == 0) = true := by simp; omega
        have he : enc x = uvarint x.num := by unfold enc; rw [if_pos k0]
        have hg : getU ((pageOf es).drop a) = (x.num, (enc x).length, 0) := by rw [hdrop, he]; exact getU_uvarint _ hxw.2.1
        generalize (enc x).length = q at hg HN hle
        have hG := getUint_any Ab nb cb a (pageOf es) (((wr.alloc (.cells #[.int .u8 (x.kind : Int), .int .u64 (x.num : Int), .slice B m d] 89)).alloc (.cells #[.int .u8 (x.kind : Int), .int .u64 0, .slice none 0 0] 89))) ((hU.alloc _).alloc _) (by omega) (by omega)
        rw [hg] at hG
        have k2 : ¬ x.kind % 3 = 2 := by omega
        clear hg he hdrop k0
        go_wp2_with fail
        refine hG.mono ?_
        rintro e w4 ⟨rfl, rfl⟩
        simp only [ansU, nextU, if_true]
        go_wp2_with fail
        have hal : decide (alike x ⟨x.kind, x.num, []⟩) = true := decide_eq_true (by unfold alike; rw [if_neg k2])
        refine (like_any x ⟨x.kind, x.num, []⟩ B m d none 0 0 _ ((hb.alloc _).alloc _) (IsB.nil _)).mono ?_
        rintro e w5 ⟨rfl, hb5⟩
        rw [hal]
        have hW := (((Below.refl _ wr).alloc (Nat.le_refl _) (.cells #[.int .u8 (x.kind : Int), .int .u64 (x.num : Int), .slice B m d] 89)).alloc (by simp) (.cells #[.int .u8 (x.kind : Int), .int .u64 (x.num : Int), .slice none 0 0] 89))
        have hW5 := bstep0 hW hb5
        have hE5 := hE.below hW5
        have hU5 := hU.below hW5
        have hB5 := bstep0 hB hW5
        clear hal k2 hE hU hB hW hW5 hb5 hb
        go_wp2_with fail
        go_roundw
        case rel => exact ⟨j + 1, a + q, by go_num, by omega, by simp, HN.out, hE5, hU5, hB5⟩
        case measure => simp [intOf]; omega
      · have d0 : ((x.kind : Int) % 3 == 0) = false := by simp; omega
        by_cases k1 : x.kind % 3 = 1
        · have d1 : ((x.kind : Int) % 3 == 1) = true := by simp; omega
          have he : enc x = uvarint (Lib.zigzag x.signed) := by unfold enc; rw [if_neg k0, if_pos k1]
          have hg : getU ((pageOf es).drop a) = (Lib.zigzag x.signed, (enc x).length, 0) := by rw [hdrop, he]; exact getU_uvarint _ (Lib.zigzag_lt hsg.1 hsg.2)
          generalize (enc x).length = q at hg HN hle
          have hG := getInt_any Ab nb cb a (pageOf es) ((wr.alloc (.cells #[.int .u8 (x.kind : Int), .int .u64 (x.num : Int), .slice B m d] 89)).alloc (.cells #[.int .u8 (x.kind : Int), .int .u64 0, .slice none 0 0] 89)) ((hU.alloc _).alloc _) (by omega) (by omega)
          rw [hg] at hG
          unfold ansI nextU at hG
          rw [unzigzag_zigzag] at hG
          have hwu : IntKind.u64.wrap x.signed = (x.num : Int) := signed_back hxw.2.1
          have k2 : ¬ x.kind % 3 = 2 := by omega
          generalize x.signed = sg at hwu hG
          clear hg he hdrop k0 k1 hsg
          go_wp2_with fail
          refine hG.mono ?_
          rintro e w4 ⟨rfl, rfl⟩
          simp only [if_true]
          go_wp2_with fail
          have hal : decide (alike x ⟨x.kind, x.num, []⟩) = true := decide_eq_true (by unfold alike; rw [if_neg k2])
          refine (like_any x ⟨x.kind, x.num, []⟩ B m d none 0 0 _ ((hb.alloc _).alloc _) (IsB.nil _)).mono ?_
          rintro e w5 ⟨rfl, hb5⟩
          rw [hal]
          have hW := (((Below.refl _ wr).alloc (Nat.le_refl _) (.cells #[.int .u8 (x.kind : Int), .int .u64 (x.num : Int), .slice B m d] 89)).alloc (by simp) (.cells #[.int .u8 (x.kind : Int), .int .u64 (x.num : Int), .slice none 0 0] 89))
          have hW5 := bstep0 hW hb5
          have hE5 := hE.below hW5
          have hU5 := hU.below hW5
          have hB5 := bstep0 hB hW5
          clear hal k2 hE hU hB hW hW5 hb5 hb hwu
          go_wp2_with fail
          go_roundw
          case rel => exact ⟨j + 1, a + q, by go_num, by omega, by simp, HN.out, hE5, hU5, hB5⟩
          case measure => simp [intOf]; omega
        · have d1 : ((x.kind : Int) % 3 == 1) = false := by simp; omega
          have he : enc x = uvarint x.str.length ++ x.str := by unfold enc; rw [if_neg k0, if_neg k1]
          have hg : blobOf (pageOf es) a 1024 = (x.str, a + (enc x).length, 0) := by
            rw [he] at hdrop hle ⊢
            exact blob_at hxw.2.2 hdrop hle
          generalize (enc x).length = q at hg HN hle
          have hG := getBlob_any Ab nb cb a 1024 (pageOf es) ((wr.alloc (.cells #[.int .u8 (x.kind : Int), .int .u64 (x.num : Int), .slice B m d] 89)).alloc (.cells #[.int .u8 (x.kind : Int), .int .u64 0, .slice none 0 0] 89)) ((hU.alloc _).alloc _) (by omega) (by omega) (by omega) (by omega)
          rw [hg] at hG
          have k2 : x.kind % 3 = 2 := by omega
          clear hg he hdrop k0 k1 hsg
          go_wp2_with fail
          refine hG.mono ?_
          rintro e w4 ⟨⟨v, rfl, ho⟩, hb4⟩
          obtain ⟨By, my, dy, rfl, _⟩ := own_slice ho
          have ho2 := own_far ho (p := ⟨wr.heap.size + 1, 2, none⟩) (by simp) (.slice By my dy)
          obtain ⟨By', my', dy', hv', hy⟩ := own_slice ho2
          simp only [Value.slice.injEq] at hv'
          obtain ⟨rfl, rfl, rfl⟩ := hv'
          clear ho ho2
          have hW := (((Below.refl _ wr).alloc (Nat.le_refl _) (.cells #[.int .u8 (x.kind : Int), .int .u64 (x.num : Int), .slice B m d] 89)).alloc (by simp) (.cells #[.int .u8 (x.kind : Int), .int .u64 0, .slice none 0 0] 89))
          have q0 : w4.heap[wr.heap.size]? = some (.cells #[.int .u8 (x.kind : Int), .int .u64 (x.num : Int), .slice B m d] 89) := (hb4.block _ (by simp <;> omega)).trans ((heap_alloc_old _ _ (by simp)).trans (heap_alloc_new _ _))
          have q1 : w4.heap[wr.heap.size + 1]? = some (.cells #[.int .u8 (x.kind : Int), .int .u64 0, .slice none 0 0] 89) := (hb4.block _ (by simp <;> omega)).trans (by have := heap_alloc_new (wr.alloc (.cells #[.int .u8 (x.kind : Int), .int .u64 (x.num : Int), .slice B m d] 89)) (.cells #[.int .u8 (x.kind : Int), .int .u64 0, .slice none 0 0] 89); simpa using this)
          have x0 : w4.cell? ⟨wr.heap.size, 0, none⟩ = some (.int .u8 (x.kind : Int)) := cell_of_row w4 _ 0 _ _ _ q0
          have x1 : w4.cell? ⟨wr.heap.size, 1, none⟩ = some (.int .u64 (x.num : Int)) := cell_of_row w4 _ 1 _ _ _ q0
          have x2 : w4.cell? ⟨wr.heap.size, 2, none⟩ = some (.slice B m d) := cell_of_row w4 _ 2 _ _ _ q0
          have y0 : w4.cell? ⟨wr.heap.size + 1, 0, none⟩ = some (.int .u8 (x.kind : Int)) := cell_of_row w4 _ 0 _ _ _ q1
          have y1 : w4.cell? ⟨wr.heap.size + 1, 1, none⟩ = some (.int .u64 0) := cell_of_row w4 _ 1 _ _ _ q1
          have y2 : w4.cell? ⟨wr.heap.size + 1, 2, none⟩ = some (.slice none 0 0) := cell_of_row w4 _ 2 _ _ _ q1
          have yf : w4.frozen? ⟨wr.heap.size + 1, 2, none⟩ = false := by simp [World.frozen?, q1]
          have hW4 := bstep0 hW hb4
          have hsz : wr.heap.size ≠ wr.heap.size + 1 := by omega
          clear q0 q1
          go_wp2_with fail
          have hal : decide (alike x ⟨x.kind, 0, x.str⟩) = true := decide_eq_true (by unfold alike; rw [if_pos k2])
          have hW6 := hW4.setCell (p := ⟨wr.heap.size + 1, 2, none⟩) (by simp) (.slice By my dy)
          refine (like_any x ⟨x.kind, 0, x.str⟩ B m d By my dy _ (hb.below hW6) hy).mono ?_
          rintro e w5 ⟨rfl, hb5⟩
          rw [hal]
          have hW5 := bstep0 hW6 hb5
          have hE5 := hE.below hW5
          have hU5 := hU.below hW5
          have hB5 := bstep0 hB hW5
          clear hal k2 hE hU hB hW hW4 hW6 hW5 hb5 hb hy x0 x1 x2 y0 y1 y2 yf
          go_wp2_with fail
          go_roundw
          case rel => exact ⟨j + 1, a + q, by go_num, by omega, by simp, HN.out, hE5, hU5, hB5⟩
          case measure => simp [intOf]; omega
    · obtain rfl : j = n := by omega
      have hd : decide ((j : Int) < (j : Int)) = false := by simp
      have hae : a = nb := by have := ha.out; rw [List.take_of_length_le (by omega)] at this; omega
      subst hae
      clear hE hU
      go_wp2_with fail
      go_ret
      exact ⟨rfl, hB⟩
end Go.Proofs.Ytdcflgblaljdeaa
