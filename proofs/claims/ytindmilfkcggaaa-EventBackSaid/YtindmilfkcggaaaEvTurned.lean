/-
  EventTurned: if up to four bytes of a frame's body, next to each other, are others, it is refused: ErrSum.
-/
import Derived.Test.YtindmilfkcggaaaEvAwake
import Derived.Test.YtindmilfkcggaaaEvTurnMath
set_option linter.unusedVariables false
set_option linter.unusedSimpArgs false
namespace Go.Proofs.Ytindmilfkcggaaa
open Go.RowKit
open Go.Lib (byteCells byteCells_length byteCells_append uvarint)

theorem u8_xor_bytes (x u : UInt8) : bits .xor .u8 (x.toNat : Int) (u.toNat : Int) = ((x ^^^ u).toNat : Int) := by
  have h1 := x.toNat_lt
  have h2 := u.toNat_lt
  rw [toNat_xor8]
  show IntKind.u8.wrap ((BitVec.ofInt 8 (x.toNat : Int) ^^^ BitVec.ofInt 8 (u.toNat : Int)).toNat : Int) = _
  rw [BitVec.toNat_xor, BitVec.ofInt_natCast, BitVec.ofInt_natCast, BitVec.toNat_ofNat, BitVec.toNat_ofNat, Nat.mod_eq_of_lt h1, Nat.mod_eq_of_lt h2, IntKind.wrap_u8']
  have := Nat.xor_lt_two_pow (n := 8) h1 h2
  omega
def chgOf (t : List UInt8) (i : Nat) : Bool := (t.take i).any (fun u => u != 0)
theorem chgOf_step {t : List UInt8} {i : Nat} {u : UInt8} (hu : t[i]? = some u) : chgOf t (i + 1) = (chgOf t i || (u != 0)) := by
  obtain ⟨hi, e⟩ := List.getElem?_eq_some_iff.1 hu
  unfold chgOf
  rw [List.take_succ_eq_append_getElem hi, List.any_append, e]
  simp
theorem chgOf_false {t : List UInt8} {i : Nat} (h : chgOf t i = false) : ∀ u ∈ t.take i, u = 0 := by
  intro u hu
  unfold chgOf at h
  rw [List.any_eq_false] at h
  have := h u hu
  simpa using this
theorem chgOf_true {t : List UInt8} {i : Nat} (h : chgOf t i = true) : ¬ ∀ u ∈ t.take i, u = 0 := by
  intro hall
  unfold chgOf at h
  rw [List.any_eq_true] at h
  obtain ⟨u, hu, hne⟩ := h
  rw [hall u hu] at hne
  simp at hne
theorem bne_byte (u : UInt8) : ((u.toNat : Int) != 0) = (u != 0) := by
  by_cases h : u = 0
  · subst h; rfl
  · have h1 : u.toNat ≠ 0 := fun e => h (UInt8.toNat_inj.1 e)
    rw [bne_iff_ne.2 (by omega), bne_iff_ne.2 h]

theorem turned_cell {wr : World} {g cg k m a i : Nat} {b t : List UInt8} (hMr : Mine wr g 5 cg (frameAs b (turned_ b a i t))) (hbu : (uvarint b.length).length = k + 1) (hbm : b.length = m) (ham : a + i < m) :
    ∃ x, (turned_ b a i t)[a + i]? = some x ∧ wr.cell? ⟨g, k + 1 + a + i, none⟩ = some (.int .u8 (x.toNat : Int)) := by
  have hlt : a + i < (turned_ b a i t).length := by rw [turned_length, hbm]; exact ham
  have hx : (turned_ b a i t)[a + i]? = some (turned_ b a i t)[a + i] := List.getElem?_eq_getElem hlt
  refine ⟨_, hx, ?_⟩
  have h2 := frameAs_get (b := b) (b' := turned_ b a i t) (k := a + i) hx
  rw [hbu, ← Nat.add_assoc] at h2
  exact Mine.cell hMr h2
theorem turned_put {wr : World} {g cg k m a i : Nat} {b t : List UInt8} {x u : UInt8} (hMr : Mine wr g 5 cg (frameAs b (turned_ b a i t))) (hbu : (uvarint b.length).length = k + 1) (hbm : b.length = m) (ham : a + i < m)
    (hx : (turned_ b a i t)[a + i]? = some x) (hu : t[i]? = some u) :
    Mine (wr.setCell ⟨g, k + 1 + a + i, none⟩ (.int .u8 (bits .xor .u8 (x.toNat : Int) (u.toNat : Int)))) g 5 cg (frameAs b (turned_ b a (i + 1) t)) := by
  have hp := hMr.put (k + 1 + a + i) (x ^^^ u) _ (u8_xor_bytes x u).symm
  have e := frameAs_set (b := b) (b' := turned_ b a i t) (a + i) (x ^^^ u) (by rw [turned_length, hbm]; exact ham)
  rw [hbu, ← Nat.add_assoc, turned_step hx hu] at e
  rw [e] at hp
  exact hp
theorem four_at {t : List UInt8} {u0 u1 u2 u3 : UInt8} (ht : t = [u0, u1, u2, u3]) (i : Nat) (x : UInt8) (hx : t[i]? = some x) :
    (#[Value.int .u8 (u0.toNat : Int), .int .u8 (u1.toNat : Int), .int .u8 (u2.toNat : Int), .int .u8 (u3.toNat : Int)] : Array Value)[i]? = some (Value.int .u8 (x.toNat : Int)) := by
  rw [ht] at hx
  match i, hx with
  | 0, hx => simp at hx; subst hx; rfl
  | 1, hx => simp at hx; subst hx; rfl
  | 2, hx => simp at hx; subst hx; rfl
  | 3, hx => simp at hx; subst hx; rfl

theorem sum_small {a i m : Nat} (h : a + i ≤ m) (hm : m ≤ 170000) : wrap64 ((a : Int) + (i : Int)) = (a : Int) + (i : Int) := by unfold wrap64; omega
theorem sameev_self {w : World} {A : Option Addr} {n c : Nat} {l : List Ev} {B : Option Addr} {m d : Nat} (h1 : IsEv w A n c l) (h2 : IsEv w B m d l) (hn : n ≤ 1000000) (hm : m ≤ 1000000) :
    Calls Try.prog 23 #[.slice A n c, .slice B m d] w fun e w' => e = .returned (.bool true) ∧ Below w.heap.size w w' := by
  have := sameev_any h1 h2 hn hm
  rwa [decide_eq_true rfl] at this
theorem turn_arith {k m a i : Nat} (hi : i < 4) (ham : a + i < m) (hm : m ≤ 170000) (hk : k + 1 ≤ 10) :
    decide ((i : Int) < 4) = true ∧ decide ((a : Int) + (i : Int) < (m : Int)) = true ∧ IntKind.i64.wrap ((k : Int) + 1 + (a : Int)) = (k : Int) + 1 + (a : Int) ∧ IntKind.i64.wrap ((k : Int) + 1 + (a : Int) + (i : Int)) = (k : Int) + 1 + (a : Int) + (i : Int) ∧
    0 ≤ (k : Int) + 1 + (a : Int) + (i : Int) ∧ (k : Int) + 1 + (a : Int) + (i : Int) < (k : Int) + 1 + (m : Int) + 4 ∧ ((k : Int) + 1 + (a : Int) + (i : Int)).toNat = k + 1 + a + i ∧ (i : Int) < 4 ∧ (0 : Int) ≤ (i : Int) :=
  ⟨decide_eq_true (by omega), decide_eq_true (by omega), IntWalk.i64_in _ (by omega), IntWalk.i64_in _ (by omega), by omega, by omega, by omega, by omega, by omega⟩

set_option maxRecDepth 100000 in
set_option maxHeartbeats 1000000 in
theorem turned_walk (A : Option Addr) (n c : Nat) (es : List Ev) (at_ : Int) (u0 u1 u2 u3 : UInt8) (w : World) (h : IsEv w A n c es) (hok : ∀ x ∈ es, x.ok) (hat : In64 at_) (hn : n ≤ maxLen) :
    Calls Try.prog 9 #[.slice A n c, .int .i64 at_, .agg #[.int .u8 (u0.toNat : Int), .int .u8 (u1.toNat : Int), .int .u8 (u2.toNat : Int), .int .u8 (u3.toNat : Int)]] w fun e w' => e = .returned (.bool true) ∧ Below w.heap.size w w' := by
  unfold maxLen at hn
  have hB1 : Below w.heap.size w (w.alloc (.cells #[.int .u8 (u0.toNat : Int), .int .u8 (u1.toNat : Int), .int .u8 (u2.toNat : Int), .int .u8 (u3.toNat : Int)] 53)) := (Below.refl _ w).alloc (Nat.le_refl _) _
  by_cases h0 : n = 0
  · subst h0
    clear h hok
    go_enter Try.func9, Try.ntmps9
    go_wp2_with fail
    refine (awake3_any _).mono ?_
    rintro e w9 ⟨rfl, hb9⟩
    go_wp2_with fail
    go_ret
    exact ⟨rfl, bstep0 hB1 hb9⟩
  have d0 : ((n : Int) == 0) = false := by simp; omega
  by_cases h1 : 100 < n
  · have d1 : decide ((100 : Int) < (n : Int)) = true := by simp; omega
    clear h hok
    go_enter Try.func9, Try.ntmps9
    go_wp2_with fail
    refine (awake3_any _).mono ?_
    rintro e w9 ⟨rfl, hb9⟩
    go_wp2_with fail
    go_ret
    exact ⟨rfl, bstep0 hB1 hb9⟩
  have d1 : decide ((100 : Int) < (n : Int)) = false := by simp; omega
  have hlen := h.len
  have hev : Evs es := ⟨by omega, by omega, hok⟩
  have hq1 : (w.alloc (.cells #[.int .u8 (u0.toNat : Int), .int .u8 (u1.toNat : Int), .int .u8 (u2.toNat : Int), .int .u8 (u3.toNat : Int)] 53)).heap[w.heap.size]? = some (.cells #[.int .u8 (u0.toNat : Int), .int .u8 (u1.toNat : Int), .int .u8 (u2.toNat : Int), .int .u8 (u3.toNat : Int)] 53 (0, 0)) := heap_alloc_new _ _
  have hI1 := h.below hB1
  have HF := Lib.hid (Frame_any A n c es _ hI1 (by omega) (by omega) hok)
  obtain ⟨m, hm⟩ : ∃ m, Hid (m = (bodyOf es).length) := ⟨_, rfl⟩
  obtain ⟨hl, hhl⟩ : ∃ hl, Hid (hl = (uvarint (bodyOf es).length).length) := ⟨_, rfl⟩
  have hm1 : m ≤ 170000 := by rw [hm.out]; exact bodyOf_most hev.most
  have hm0 : 6 ≤ m := by
    rw [hm.out]; unfold bodyOf
    have e1 := encEvs_least es Ev.zero
    have e2 := Lib.uvarint_pos es.length
    rw [List.length_append]
    omega
  have hhl1 : 1 ≤ hl := by rw [hhl.out]; exact Lib.uvarint_pos _
  have hhl2 : hl ≤ 10 := by rw [hhl.out]; exact Lib.uvarint_length64 (by have := bodyOf_most hev.most; omega)
  have hN : (frameOf es).length = hl + m + 4 := by rw [frameOf_length, hhl.out, hm.out]
  have HEV := Lib.hid hev
  have HQ1 := Lib.hid hq1
  have HB1 := Lib.hid hB1
  have HI1 := Lib.hid hI1
  have HLEN := Lib.hid hlen
  have HH := Lib.hid h
  clear h hok hev hq1 hI1 hlen hB1 h0
  go_enter Try.func9, Try.ntmps9
  go_wp2_with fail
  generalize w.alloc (.cells #[.int .u8 (u0.toNat : Int), .int .u8 (u1.toNat : Int), .int .u8 (u2.toNat : Int), .int .u8 (u3.toNat : Int)] 53) = W1 at HF HQ1 HB1 HI1 ⊢
  refine HF.out.mono ?_
  rintro e w2 ⟨v, rfl, ho, hb2⟩
  obtain ⟨g, cg, rfl, hg, hgl, hM⟩ := own_mine_at (n := hl + m + 4) ho hN (by omega)
  have hz1 := HB1.out.size
  have hq2 := (hb2.block _ (Array.getElem?_eq_some_iff.1 HQ1.out).1).trans HQ1.out
  have hI2 := HI1.out.below hb2
  have hB2 := HB1.out.trans (hb2.mono hz1)
  have hgw : w.heap.size < g := by have := (Array.getElem?_eq_some_iff.1 HQ1.out).1; omega
  have hcg : hl + m + 4 ≤ cg := by obtain ⟨_, _, _, hc, _⟩ := hM; rw [hN] at hc; exact hc
  have d2 : decide ((hl : Int) + (m : Int) + 4 < 7) = false := by simp; omega
  have hpush : ((hl + m + 4 : Nat) : Int) = (hl : Int) + (m : Int) + 4 := by omega
  have HM := Lib.hid hM
  have HQ2 := Lib.hid hq2
  have HI2 := Lib.hid hI2
  have HB2 := Lib.hid hB2
  clear HF HQ1 HB1 HI1 ho hb2 hM hq2 hI2 hB2 hg
  go_wp2_with fail
  go_loop [9] (fun q => ∃ k : Nat, q = .int .i64 ((k : Int) + 1) ∧ k < hl) (fun q => hl - (intOf q).toNat)
  case atStart => exact ⟨0, rfl, by omega⟩
  case round =>
    obtain ⟨k, rfl, hk⟩ := hrel
    obtain ⟨u, hu, hiff⟩ := uvarint_ends (bodyOf es).length k (by rw [← hhl.out]; exact hk)
    rw [← hhl.out] at hiff
    have hu2 : (frameOf es)[k]? = some u := by
      unfold frameOf
      rw [List.getElem?_append_left (List.getElem?_eq_some_iff.1 hu).1]
      exact hu
    have x0 := HM.out.cell hu2
    have s0 : wrap64 ((k : Int) + 1 - 1) = (k : Int) := by unfold wrap64; omega
    have s1 : (k : Int) + 1 - 1 = (k : Int) := by omega
    have i1 : (k : Int) < (hl : Int) + (m : Int) + 4 := by omega
    clear hu hu2
    by_cases hlast : k + 1 < hl
    · have hd : decide ((128 : Int) ≤ (u.toNat : Int)) = true := by have := hiff.2 hlast; simp; omega
      clear hiff
      go_wp2_with fail
      go_round
      case rel => exact ⟨k + 1, by go_num, by omega⟩
      case measure => simp [intOf]; omega
    · have hd : decide ((128 : Int) ≤ (u.toNat : Int)) = false := by have := fun e => hlast (hiff.1 e); simp; omega
      obtain rfl : hl = k + 1 := by omega
      clear hiff
      have e0 : ((k + 1 : Nat) : Int) = (k : Int) + 1 := by omega
      rw [e0] at d2 hpush i1
      have e1 : wrap64 ((k : Int) + 1 + (m : Int) + 4 - 4) = (k : Int) + 1 + (m : Int) := by unfold wrap64; omega
      have e2 : wrap64 ((k : Int) + 1 + (m : Int) - ((k : Int) + 1)) = (m : Int) := by unfold wrap64; omega
      have e3 : (k : Int) + 1 + (m : Int) + 4 - 4 = (k : Int) + 1 + (m : Int) := by omega
      have e4 : (k : Int) + 1 + (m : Int) - ((k : Int) + 1) = (m : Int) := by omega
      have d3 : decide ((m : Int) < 6) = false := by simp; omega
      go_wp2_with fail
      refine (pick_any at_ m _ (by omega) hat).mono ?_
      rintro e w' ⟨rfl, rfl⟩
      have ha := pickOf_lt at_ (n := m) (by omega)
      generalize pickOf at_ m = a at ha
      clear e0 e1 e2 e3 e4 d3 s0 s1 i1 hd hlast d0 d1 d2 hk x0
      go_wp2_with fail
      have ng : ¬ (w.heap.size = g) := by omega
      have lg : w.heap.size ≤ g := by omega
      have HNN := Lib.hid hN
      have HN1 : Hid (n ≤ 100) := by show n ≤ 100; omega
      clear hn h1 hgl hz1 hgw hcg hpush hN hhl1 hm0
      obtain ⟨t, ht⟩ : ∃ t, Hid (t = [u0, u1, u2, u3]) := ⟨_, rfl⟩
      have htl : t.length = 4 := by rw [ht.out]; rfl
      have HAT := Lib.hid (four_at ht.out)
      obtain ⟨b, hb⟩ : ∃ b, Hid (b = bodyOf es) := ⟨_, rfl⟩
      have hbm : Hid (b.length = m) := by show _ = _; rw [hb.out, hm.out]
      have hbu : Hid ((uvarint b.length).length = k + 1) := by show _ = _; rw [hb.out, hhl.out]
      have hM0 : Mine w2 g 5 cg (frameAs b (turned_ b a 0 t)) := by rw [turned_zero, hb.out, frameAs_self]; exact HM.out
      have hq0 := HQ2.out
      have hB0 := HB2.out
      go_loopw [11, 12] (fun ch q wr => ∃ i : Nat, q = .int .i64 (i : Int) ∧ i ≤ 4 ∧ a + i ≤ m ∧ ch = .bool (chgOf t i) ∧ Mine wr g 5 cg (frameAs b (turned_ b a i t)) ∧
        wr.heap[w.heap.size]? = some (.cells #[.int .u8 (u0.toNat : Int), .int .u8 (u1.toNat : Int), .int .u8 (u2.toNat : Int), .int .u8 (u3.toNat : Int)] 53 (0, 0)) ∧ Below w.heap.size w wr) (fun _ q _ => 4 - (intOf q).toNat)
      case atStart => exact ⟨0, rfl, by omega, by omega, rfl, hM0, hq0, hB0⟩
      case round =>
        clear hM0 hq0 hB0
        obtain ⟨i, rfl, hi4, hai, rfl, hMr, hqr, hBr⟩ := hrel
        have z1 : wrap64 ((a : Int) + (i : Int)) = (a : Int) + (i : Int) := sum_small hai hm1
        by_cases hgo : i < 4 ∧ a + i < m
        · obtain ⟨hi, ham⟩ := hgo
          obtain ⟨q1, q2, r1, r2, b0, b1, bt, b2, b3⟩ := turn_arith hi ham hm1 hhl2
          obtain ⟨u, hu⟩ : ∃ u, t[i]? = some u := ⟨t[i]'(by rw [htl]; exact hi), List.getElem?_eq_getElem _⟩
          obtain ⟨x, hx, x0⟩ := turned_cell hMr hbu.out hbm.out ham
          have y0 : wr.cell? ⟨w.heap.size, i, none⟩ = some (.int .u8 (u.toNat : Int)) := by
            rw [cell_of_row _ _ i _ _ _ hqr]
            exact HAT.out i u hu
          have f0 := hMr.free (k + 1 + a + i)
          have hMn := turned_put hMr hbu.out hbm.out ham hx hu
          have hAn := Away.setCell wr ⟨g, k + 1 + a + i, none⟩ (.int .u8 (bits .xor .u8 (x.toNat : Int) (u.toNat : Int)))
          have hqn := (hAn.block w.heap.size (Array.getElem?_eq_some_iff.1 hqr).1 ng).trans hqr
          have hBn := hBr.setCell (p := ⟨g, k + 1 + a + i, none⟩) lg (.int .u8 (bits .xor .u8 (x.toNat : Int) (u.toNat : Int)))
          have HMn := Lib.hid hMn
          have HQn := Lib.hid hqn
          have HBn := Lib.hid hBn
          have HU := Lib.hid hu
          clear hMn hqn hBn hAn hu hx hMr hBr
          go_wp2_with fail
          have yn : (wr.setCell ⟨g, k + 1 + a + i, none⟩ (.int .u8 (bits .xor .u8 (x.toNat : Int) (u.toNat : Int)))).cell? ⟨w.heap.size, i, none⟩ = some (.int .u8 (u.toNat : Int)) := by
            rw [cell_of_row _ _ i _ _ _ HQn.out]
            exact HAT.out i u HU.out
          refine wp_region_held_drew (S := fun w' => w'.cell? ⟨w.heap.size, i, none⟩ = some (.int .u8 (u.toNat : Int))) (by kernel_rfl) y0 (fun hHeld => ?_)
          refine wpAnyH_take (i := 0) (v := ?_) rfl (by kernel_rfl) (by kernel_rfl) (by kernel_rfl) (fun _ _ _ h => h) (Or.inl ⟨by rfl, ?_⟩) hHeld ?_
          rotate_left
          · (intro w hSw; (try dsimp only at hSw); go_simp <;> rfl)
          simp only [Act.put, List.getElem_toArray, List.getElem_cons_zero, List.getElem_cons_succ, List.setIfInBounds_toArray, List.set_cons_zero, List.set_cons_succ]
          refine wpAnyH_take (i := 1) (v := ?_) rfl (by kernel_rfl) (by kernel_rfl) (by kernel_rfl) (fun _ _ _ h => h) (Or.inl ⟨by rfl, ?_⟩) hHeld ?_
          rotate_left
          · (intro w hSw; (try dsimp only at hSw); go_simp <;> rfl)
          simp only [Act.put, List.getElem_toArray, List.getElem_cons_zero, List.getElem_cons_succ, List.setIfInBounds_toArray, List.set_cons_zero, List.set_cons_succ]
          refine wpAnyH_take (i := 2) (v := ?_) rfl (by kernel_rfl) (by kernel_rfl) (by kernel_rfl) (fun _ _ _ h => h) (Or.inl ⟨by rfl, ?_⟩) hHeld ?_
          rotate_left
          · (intro w hSw; (try dsimp only at hSw); go_simp <;> rfl)
          simp only [Act.put, List.getElem_toArray, List.getElem_cons_zero, List.getElem_cons_succ, List.setIfInBounds_toArray, List.set_cons_zero, List.set_cons_succ]
          refine wpAnyH_take (i := 3) (v := ?_) rfl (by kernel_rfl) (by kernel_rfl) (by kernel_rfl) (fun _ _ _ h => h) (Or.inl ⟨by rfl, ?_⟩) hHeld ?_
          rotate_left
          · (intro w hSw; (try dsimp only at hSw); go_simp <;> rfl)
          simp only [Act.put, List.getElem_toArray, List.getElem_cons_zero, List.getElem_cons_succ, List.setIfInBounds_toArray, List.set_cons_zero, List.set_cons_succ]
          refine wpAnyH_take (i := 4) (v := ?_) rfl (by kernel_rfl) (by kernel_rfl) (by kernel_rfl) (fun _ _ _ h => h) (Or.inl ⟨by rfl, ?_⟩) hHeld ?_
          rotate_left
          · (intro w hSw; (try dsimp only at hSw); go_simp <;> rfl)
          simp only [Act.put, List.getElem_toArray, List.getElem_cons_zero, List.getElem_cons_succ, List.setIfInBounds_toArray, List.set_cons_zero, List.set_cons_succ]
          refine wpAnyH_take (i := 5) (v := ?_) rfl (by kernel_rfl) (by kernel_rfl) (by kernel_rfl) (fun _ _ _ h => h) (Or.inl ⟨by rfl, ?_⟩) hHeld ?_
          rotate_left
          · (intro w hSw; (try dsimp only at hSw); go_simp <;> rfl)
          simp only [Act.put, List.getElem_toArray, List.getElem_cons_zero, List.getElem_cons_succ, List.setIfInBounds_toArray, List.set_cons_zero, List.set_cons_succ]
          refine wpAnyH_take (i := 6) (v := ?_) rfl (by kernel_rfl) (by kernel_rfl) (by kernel_rfl) (fun _ _ _ h => h) (Or.inl ⟨by rfl, ?_⟩) hHeld ?_
          rotate_left
          · (intro w hSw; (try dsimp only at hSw); go_simp <;> rfl)
          simp only [Act.put, List.getElem_toArray, List.getElem_cons_zero, List.getElem_cons_succ, List.setIfInBounds_toArray, List.set_cons_zero, List.set_cons_succ]
          refine wpAnyH_take (i := 8) (v := ?_) rfl (by kernel_rfl) (by kernel_rfl) (by kernel_rfl) (fun _ _ _ h => h) (Or.inl ⟨by rfl, ?_⟩) hHeld ?_
          rotate_left
          · (intro w hSw; (try dsimp only at hSw); go_simp <;> rfl)
          simp only [Act.put, List.getElem_toArray, List.getElem_cons_zero, List.getElem_cons_succ, List.setIfInBounds_toArray, List.set_cons_zero, List.set_cons_succ]
          refine wpAnyH_take (i := 9) (v := ?_) rfl (by kernel_rfl) (by kernel_rfl) (by kernel_rfl) (fun _ _ _ h => h) (Or.inl ⟨by rfl, ?_⟩) hHeld ?_
          rotate_left
          · (intro w hSw; (try dsimp only at hSw); go_simp <;> rfl)
          simp only [Act.put, List.getElem_toArray, List.getElem_cons_zero, List.getElem_cons_succ, List.setIfInBounds_toArray, List.set_cons_zero, List.set_cons_succ]
          refine wpAnyH_take (i := 10) (v := ?_) rfl (by kernel_rfl) (by kernel_rfl) (by kernel_rfl) (fun _ _ _ h => h) (Or.inl ⟨by rfl, ?_⟩) hHeld ?_
          rotate_left
          · (intro w hSw; (try dsimp only at hSw); go_simp <;> rfl)
          simp only [Act.put, List.getElem_toArray, List.getElem_cons_zero, List.getElem_cons_succ, List.setIfInBounds_toArray, List.set_cons_zero, List.set_cons_succ]
          refine wpAnyH_ready (rs := [7]) (by kernel_rfl) (by simp) ?_
          refine AllReadyH.cons rfl (fun K hK => ?_) AllReadyH.nil
          go_simp
          refine hK.out _ _ hHeld (fun hHeld => ?_)
          clear hK K
          try simp only [Act.put, List.getElem_toArray, List.getElem_cons_zero, List.getElem_cons_succ, List.setIfInBounds_toArray, List.set_cons_zero, List.set_cons_succ]
          refine wpAnyH_take (i := 11) (v := ?_) rfl (by kernel_rfl) (by kernel_rfl) (by kernel_rfl) (fun _ _ _ h => h) (Or.inl ⟨by rfl, ?_⟩) hHeld ?_
          rotate_left
          · (intro w hSw; (try dsimp only at hSw); go_simp <;> rfl)
          simp only [Act.put, List.getElem_toArray, List.getElem_cons_zero, List.getElem_cons_succ, List.setIfInBounds_toArray, List.set_cons_zero, List.set_cons_succ]
          refine wpAnyH_take (i := 12) (v := ?_) rfl (by kernel_rfl) (by kernel_rfl) (by kernel_rfl) (fun _ _ _ h => h) (Or.inl ⟨by rfl, ?_⟩) hHeld ?_
          rotate_left
          · (intro w hSw; (try dsimp only at hSw); go_simp <;> rfl)
          simp only [Act.put, List.getElem_toArray, List.getElem_cons_zero, List.getElem_cons_succ, List.setIfInBounds_toArray, List.set_cons_zero, List.set_cons_succ]
          refine wpAnyH_ready (rs := [13]) (by kernel_rfl) (by simp) ?_
          refine AllReadyH.cons rfl (fun K hK => ?_) AllReadyH.nil
          go_simp
          refine hK.out _ _ yn (fun hHeld => ?_)
          clear hK K
          try simp only [Act.put, List.getElem_toArray, List.getElem_cons_zero, List.getElem_cons_succ, List.setIfInBounds_toArray, List.set_cons_zero, List.set_cons_succ]
          refine wpAnyH_done (by kernel_rfl) ?_ _
          have hq3 := HQn.out
          have hM3 := HMn.out
          have hB3 := HBn.out
          have yn' := yn
          generalize wr.setCell ⟨g, k + 1 + a + i, none⟩ (.int .u8 (bits .xor .u8 (x.toNat : Int) (u.toNat : Int))) = w3 at hq3 hM3 hB3 yn' ⊢
          have hch := chgOf_step HU.out
          rw [← bne_byte] at hch
          clear x0 y0 f0 r1 r2 b0 b1 bt q1 q2 hHeld yn hqr z1
          have HCH := Lib.hid hch
          clear hch
          cases hc : chgOf t i with
          | true =>
            rw [hc] at HCH
            clear hc yn'
            go_wp2_with fail
            go_roundw
            case rel => exact ⟨i + 1, by go_num, hi, ham, by rw [HCH.out]; rfl, hM3.drew, hq3, hB3.drew⟩
            case measure => simp [intOf]; omega
          | false =>
            rw [hc] at HCH
            clear hc
            go_wp2_with fail
            go_roundw
            case rel => exact ⟨i + 1, by go_num, hi, ham, by rw [HCH.out]; rfl, hM3.drew, hq3, hB3.drew⟩
            case measure => simp [intOf]; omega
        · have hLl : (frameAs b (turned_ b a i t)).length = k + 1 + m + 4 := by
            unfold frameAs
            rw [List.length_append, List.length_append, sumBytes_length, turned_length, hbu.out, hbm.out]
            omega
          have hIs := hMr.is_ hLl
          have hsm : k + 1 + m + 4 ≤ 1000000 := by omega
          obtain ⟨hev1, hev2⟩ : Hid (Evs es) ∧ Hid ((frameOf es).length = k + 1 + m + 4) := ⟨HEV, HNN⟩
          obtain ⟨R, hR, hRR⟩ : ∃ R, rdFrame (frameAs b (turned_ b a i t)) 0 = R ∧ Hid (R = if chgOf t i then ([], 0, 12) else (es, k + 1 + m + 4, 0)) := by
            refine ⟨_, rfl, ?_⟩
            show _ = _
            cases hc : chgOf t i with
            | true =>
              rw [if_pos rfl]
              exact rd_turned (turned_length _ _ _ _) (by rw [hbm.out]; omega) fun e => chgOf_true hc (turned_crc hi4 htl (by rw [hbm.out]; exact hai) e)
            | false =>
              rw [if_neg (by simp), turned_none (chgOf_false hc), hb.out, frameAs_self]
              have := rdFrame_frame (l := frameOf es) (r := []) (k := 0) hev1.out (by rw [List.drop_zero, List.append_nil])
              rw [this, hev2.out, Nat.zero_add]
          have HRD := Lib.hid (Read_lit hIs hsm hR)
          clear hR hMr hqr hLl hIs hev1 hev2
          have HIE := Lib.hid (HH.out.below hBr)
          have hzr := hBr.size
          by_cases hi : i < 4
          case' pos =>
            have ham : a + i = m := by
              by_cases e : a + i = m
              · exact e
              · exact absurd ⟨hi, Nat.lt_of_le_of_ne hai e⟩ hgo
            have q1 : decide ((i : Int) < 4) = true := decide_eq_true (by omega)
            have q2 : decide ((a : Int) + (i : Int) < (m : Int)) = false := decide_eq_false (by omega)
            clear ham hgo hai hi4
            go_wp2_with fail
          case' neg =>
            have q1 : decide ((i : Int) < 4) = false := decide_eq_false (by omega)
            clear hgo hai hi4
            go_wp2_with fail
          all_goals
            refine HRD.out.mono ?_
            rintro e w5 ⟨⟨B, m5, d5, rfl, hO, hm5⟩, hb5⟩
            have hB5 := hBr.trans (hb5.mono hzr)
            have hIE5 := HIE.out.below hb5
            cases hc : chgOf t i with
            | true =>
              rw [hc, if_pos rfl] at hRR
              have hRe := hRR.out
              subst hRe
              have hm50 : m5 = 0 := hm5
              subst hm50
              clear hO hm5 hRR HRD HIE hIE5 hc
              go_wp2_with fail
              refine (awake3_any _).mono ?_
              rintro e w9 ⟨rfl, hb9⟩
              go_wp2_with fail
              go_ret
              exact ⟨rfl, bstep0 hB5 hb9⟩
            | false =>
              rw [hc, if_neg (by simp)] at hRR
              have hRe := hRR.out
              subst hRe
              obtain ⟨B', n', c', he, hE, -, -⟩ := hO.is_
              simp only [Value.slice.injEq] at he
              obtain ⟨rfl, rfl, rfl⟩ := he
              have hle : m5 ≤ 1000000 := by have h1 : m5 = es.length := hm5; have h2 := HLEN.out; have h3 := HN1.out; omega
              have HS := Lib.hid (sameev_self hE hIE5 hle (by have := HN1.out; omega))
              clear hO hm5 hRR HRD HIE hIE5 hc hE hle
              go_wp2_with fail
              refine HS.out.mono ?_
              rintro e w8 ⟨rfl, hb8⟩
              have hB8 := bstep0 hB5 hb8
              clear HS hb8 hB5 hb5
              go_wp2_with fail
              refine (awake3_any _).mono ?_
              rintro e w9 ⟨rfl, hb9⟩
              go_wp2_with fail
              go_ret
              exact ⟨rfl, bstep0 hB8 hb9⟩
end Go.Proofs.Ytindmilfkcggaaa
