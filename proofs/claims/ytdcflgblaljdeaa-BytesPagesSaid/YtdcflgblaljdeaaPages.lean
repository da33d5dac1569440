/-
  BytesPages: page.
-/
import Derived.Test.YtdcflgblaljdeaaPagesMath
import Derived.Test.YtdcflgblaljdeaaAwaken
set_option linter.unusedSimpArgs false
namespace Go.Proofs.Ytdcflgblaljdeaa
open Go.RowKit
open Go.Lib (byteCells byteCells_length byteCells_append uvarint)
set_option linter.unusedVariables false
/-- a slice of entries holds these entries -/
structure IsE (w : World) (A : Option Addr) (n c : Nat) (es : List Ent) : Prop where
  len : es.length = n
  cap : n ≤ c
  none_ : A = none → c = 0
  src : es = [] ∨ ∃ b o, A = some ⟨b, o, none⟩ ∧ ∀ j x, es[j]? = some x →
    w.cell? ⟨b, o + j * 3, none⟩ = some (.int .u8 (x.kind : Int)) ∧ w.cell? ⟨b, o + j * 3 + 1, none⟩ = some (.int .u64 (x.num : Int)) ∧
    ∃ B m d, w.cell? ⟨b, o + j * 3 + 2, none⟩ = some (.slice B m d) ∧ IsB w B m d x.str
theorem IsE.below {w w' : World} {A : Option Addr} {n c : Nat} {es : List Ent} (h : IsE w A n c es) (hb : Below w.heap.size w w') : IsE w' A n c es := by
  refine ⟨h.len, h.cap, h.none_, ?_⟩
  rcases h.src with h0 | ⟨b, o, hA, hc⟩
  · exact .inl h0
  · refine .inr ⟨b, o, hA, fun j x hj => ?_⟩
    obtain ⟨c0, c1, B, m, d, c2, hB⟩ := hc j x hj
    exact ⟨cell_below hb _ _ c0, cell_below hb _ _ c1, B, m, d, cell_below hb _ _ c2, hB.below hb⟩

set_option maxRecDepth 100000 in
set_option maxHeartbeats 1000000 in
theorem page_any (A : Option Addr) (n c : Nat) (es : List Ent) (w : World) (h : IsE w A n c es) (hn : n ≤ 25) (hwf : ∀ x ∈ es, x.wf) :
    Calls Try.prog 53 #[.slice A n c] w fun e w' =>
      ∃ v, e = .returned v ∧ Own w' w.heap.size 5 v (pageOf es) ∧ Below w.heap.size w w' := by
  have hlen := h.len
  have HL := Lib.hid hlen
  go_enter Try.func53, Try.ntmps53
  go_wp2_with fail
  go_loopw [3, 8] (fun v q wr => ∃ j : Nat, q = .int .i64 (j : Int) ∧ j ≤ n ∧ Own wr w.heap.size 5 v (pageOf (es.take j)) ∧ Below w.heap.size w wr) (fun _ q _ => n - (intOf q).toNat)
  case atStart => exact ⟨0, rfl, by omega, by rw [List.take_zero]; exact Own.nil _ _ _, Below.refl _ _⟩
  case round =>
    obtain ⟨j, rfl, hj, hO, hB⟩ := hrel
    by_cases hjn : j < n
    · obtain ⟨x, hx⟩ : ∃ x, es[j]? = some x := ⟨es[j]'(by omega), List.getElem?_eq_getElem _⟩
      have hE := h.below hB
      obtain ⟨b, o, rfl, hc⟩ : ∃ b o, A = some ⟨b, o, none⟩ ∧ _ := by
        rcases hE.src with h0 | h0
        · rw [h0] at hlen; simp at hlen; omega
        · exact h0
      obtain ⟨c0, c1, B, m, d, c2, hb⟩ := hc j x hx
      have hd : decide ((j : Int) < (n : Int)) = true := decide_eq_true (by omega)
      clear hc
      obtain ⟨Ap, cp, rfl, hI, _⟩ := own_is hO
      have HT : Hid (pageOf (es.take (j + 1)) = pageOf (es.take j) ++ enc x) := by
        show _ = _
        obtain ⟨hjl, ex⟩ := List.getElem?_eq_some_iff.1 hx
        rw [List.take_succ_eq_append_getElem hjl, pageOf_snoc, ex]
      have hxw := hwf x (List.mem_of_getElem? hx)
      have hps : (pageOf (es.take j)).length ≤ 2750 := by
        have h1 := page_short (es.take j) fun z hz => hwf z (List.mem_of_mem_take hz)
        have h2 : (es.take j).length ≤ 25 := by rw [List.length_take]; omega
        omega
      have hsg := signed_in x
      have hsw : wrap64 (x.num : Int) = x.signed := (IntWalk.i64_left _).symm
      obtain ⟨N, hN⟩ : ∃ N, N = (pageOf (es.take j)).length := ⟨_, rfl⟩
      rw [← hN] at hI hps ⊢
      generalize pageOf (es.take j) = L at hI HT
      clear hO hN hx hE h
      by_cases k0 : x.kind % 3 = 0
      · have d0 : ((x.kind : Int) % 3 == 0) = true := by simp; omega
        have HE : Hid (enc x = uvarint x.num) := by show _ = _; unfold enc; rw [if_pos k0]
        clear k0
        go_wp2_with fail
        refine (uint_any Ap N cp x.num L _ (hI.alloc _) (by omega) hxw.2.1).mono ?_
        rintro e w2 ⟨v, rfl, ho, hb2⟩
        have hB2 := bstep hB hb2
        have ho2 : Own w2 w.heap.size 5 v (pageOf (es.take (j + 1))) := by
          rw [HT.out, HE.out]
          exact ho.mono (by have := hB.size; simp; omega)
        clear ho hb2
        go_wp2_with fail
        go_roundw
        case rel => exact ⟨j + 1, by go_num, by omega, ho2, hB2⟩
        case measure => simp [intOf]; omega
      · have d0 : ((x.kind : Int) % 3 == 0) = false := by simp; omega
        by_cases k1 : x.kind % 3 = 1
        · have d1 : ((x.kind : Int) % 3 == 1) = true := by simp; omega
          have HE : Hid (enc x = uvarint (Lib.zigzag x.signed)) := by show _ = _; unfold enc; rw [if_neg k0, if_pos k1]
          clear k0 k1
          go_wp2_with fail
          refine (int_any Ap N cp x.signed L _ (hI.alloc _) (by omega) hsg.1 hsg.2).mono ?_
          rintro e w2 ⟨v, rfl, ho, hb2⟩
          have hB2 := bstep hB hb2
          have ho2 : Own w2 w.heap.size 5 v (pageOf (es.take (j + 1))) := by
            rw [HT.out, HE.out]
            exact ho.mono (by have := hB.size; simp; omega)
          clear ho hb2
          go_wp2_with fail
          go_roundw
          case rel => exact ⟨j + 1, by go_num, by omega, ho2, hB2⟩
          case measure => simp [intOf]; omega

        · have d1 : ((x.kind : Int) % 3 == 1) = false := by simp; omega
          have HE : Hid (enc x = uvarint m ++ x.str) := by show _ = _; unfold enc; rw [if_neg k0, if_neg k1, hb.len]
          have hm : m ≤ 100 := by have := hxw.2.2; have := hb.len; omega
          clear k0 k1
          go_wp2_with fail
          refine (blob_any Ap N cp L B m d x.str _ (hI.alloc _) (by omega) (hb.alloc _) (by omega)).mono ?_
          rintro e w2 ⟨v, rfl, ho, hb2⟩
          have hB2 := bstep hB hb2
          have ho2 : Own w2 w.heap.size 5 v (pageOf (es.take (j + 1))) := by
            rw [HT.out, HE.out, ← List.append_assoc]
            exact ho.mono (by have := hB.size; simp; omega)
          clear ho hb2
          go_wp2_with fail
          go_roundw
          case rel => exact ⟨j + 1, by go_num, by omega, ho2, hB2⟩
          case measure => simp [intOf]; omega

    · obtain rfl : j = n := by omega
      have hd : decide ((j : Int) < (j : Int)) = false := by simp
      rw [List.take_of_length_le (by omega)] at hO
      clear h
      go_wp2_with fail
      go_ret
      exact ⟨_, rfl, hO, hB⟩
end Go.Proofs.Ytdcflgblaljdeaa
