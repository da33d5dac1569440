/-
  EventBack: what is put is got; what is framed is read, and what is read, framed again, is the same bytes.
-/
import Derived.Test.YtindmilfkcggaaaEvSpare
import Derived.Test.YtindmilfkcggaaaEvBackMath
import Derived.Test.YtindmilfkcggaaaEvTurned
set_option linter.unusedVariables false
set_option linter.unusedSimpArgs false
namespace Go.Proofs.Ytindmilfkcggaaa
open Go.RowKit
open Go.Lib (byteCells byteCells_length byteCells_append uvarint)

theorem Read_at0 {w : World} {A : Option Addr} {n c : Nat} {l : List UInt8} (h : IsB w A n c l) (hn : n ≤ 1000000) :
    Calls Try.prog 15 #[.slice A n c, .int .i64 0] w fun e w' => (∃ B m d, e = .returned (.tuple #[.slice B m d, .int .i64 ((rdFrame l 0).2.1 : Int), .int .i64 ((rdFrame l 0).2.2 : Int)]) ∧ OwnE w' w.heap.size (.slice B m d) (rdFrame l 0).1 ∧ m = (rdFrame l 0).1.length) ∧ Below w.heap.size w w' :=
  Read_lit h hn rfl
theorem IsB.take' {w : World} {A : Option Addr} {m c : Nat} {l : List UInt8} (h : IsB w A m c l) {n : Nat} (hn : n ≤ m) : IsB w A n c (l.take n) := by
  refine ⟨by rw [List.length_take, h.len]; omega, Nat.le_trans hn h.cap, h.none_, ?_⟩
  rcases h.src with h0 | ⟨b, o, hA, hc⟩
  · exact .inl (by rw [h0, List.take_nil])
  · refine .inr ⟨b, o, hA, fun j u hj => hc j u ?_⟩
    have hj' := (List.getElem?_eq_some_iff.1 hj).1
    rw [List.length_take] at hj'
    rwa [List.getElem?_take_of_lt (by omega)] at hj
theorem IsB.awayF {F : Nat → Prop} {w w' : World} {A : Option Addr} {n c : Nat} {l : List UInt8} (h : IsB w A n c l) (ha : Away F w w') (hf : ∀ ad, A = some ad → ¬ F ad.block) : IsB w' A n c l := by
  refine ⟨h.len, h.cap, h.none_, ?_⟩
  rcases h.src with h0 | ⟨b, o, hA, hc⟩
  · exact .inl h0
  · refine .inr ⟨b, o, hA, fun j u hj => ?_⟩
    have hx := hc j u hj
    exact (World.cell?_of_block (ha.block b (block_lt_of_cell hx) (hf _ hA))).trans hx
theorem own_at {w : World} {base : Nat} {v : Value} {l : List UInt8} (h : Own w base 5 v l) : ∃ A m c, v = .slice A m c ∧ IsB w A m c l ∧ ∀ ad, A = some ad → base ≤ ad.block := by
  obtain ⟨A, c, rfl, hS⟩ := h.spare
  refine ⟨A, _, c, rfl, hS.is_, fun ad hA => ?_⟩
  rcases hS.at_ with ⟨h0, _⟩ | ⟨g, hg, hb, _⟩
  · rw [h0] at hA; cases hA
  · rw [hg] at hA; cases hA; exact hb
theorem Read_frame {w : World} {A : Option Addr} {n c k N : Nat} {L pre post : List UInt8} {es : List Ev} (hI : IsB w A n c L) (hL : L = pre ++ (frameOf es ++ post)) (he : Evs es) (hn : n ≤ 1000000) (hk : pre.length = k) (hN : N = (frameOf es).length) :
    Calls Try.prog 15 #[.slice A n c, .int .i64 (k : Int)] w fun e w' => (∃ B q d, e = .returned (.tuple #[.slice B q d, .int .i64 ((k : Int) + (N : Int)), .int .i64 0]) ∧ OwnE w' w.heap.size (.slice B q d) es ∧ q = es.length) ∧ Below w.heap.size w w' := by
  subst hk
  have hd : L.drop pre.length = frameOf es ++ post := by rw [hL, List.drop_left]
  have hr := rdFrame_frame he hd
  have hle : pre.length ≤ n := by rw [← hI.len, hL, List.length_append]; omega
  refine (Read_any A n c pre.length L w hI hn hle).mono ?_
  rintro e w' ⟨⟨v, he', ho⟩, hb⟩
  rw [hr] at he' ho
  obtain ⟨B, q, d, rfl, _, hq, _⟩ := ho.is_
  refine ⟨⟨B, q, d, ?_, ho, hq⟩, hb⟩
  rw [he', hN]
  rfl
theorem sameev_not {w : World} {A : Option Addr} {n c : Nat} {l : List Ev} {B : Option Addr} {m d : Nat} {k : List Ev} (h1 : IsEv w A n c l) (h2 : IsEv w B m d k) (hn : n ≤ 1000000) (hm : m ≤ 1000000) (hne : l ≠ k) :
    Calls Try.prog 23 #[.slice A n c, .slice B m d] w fun e w' => e = .returned (.bool false) ∧ Below w.heap.size w w' := by
  have := sameev_any h1 h2 hn hm
  rwa [decide_eq_false hne] at this
theorem same_self {w : World} {A : Option Addr} {n c : Nat} {l : List UInt8} {B : Option Addr} {m d : Nat} {k : List UInt8} (h1 : IsB w A n c l) (h2 : IsB w B m d k) (e : k = l) :
    Calls Try.prog 12 #[.slice A n c, .slice B m d] w fun e w' => e = .returned (.bool true) ∧ w = w' := by
  subst e
  have := samebytes_any h1 h2
  rwa [decide_eq_true rfl] at this

set_option maxRecDepth 100000 in
set_option maxHeartbeats 16000000 in
theorem back_walk (A : Option Addr) (n c : Nat) (l : List Ev) (B : Option Addr) (m d : Nat) (b : List UInt8) (at_ : Int) (tu : UInt8) (w : World) (hA : IsEv w A n c l) (hok : ∀ x ∈ l, x.ok) (hB : IsB w B m d b) (hat : In64 at_) (hn : n ≤ maxLen) (hm : m ≤ maxLen) :
    Calls Try.prog 5 #[.slice A n c, .slice B m d, .int .i64 at_, .int .u8 (tu.toNat : Int)] w fun e w' => e = .returned (.bool true) ∧ Below w.heap.size w w' := by
  unfold maxLen at hn hm
  by_cases h1 : 300 < n
  · have d1 : decide ((300 : Int) < (n : Int)) = true := by simp; omega
    clear hA hB hok
    go_enter Try.func5, Try.ntmps5
    go_wp2_with fail
    refine (awake3_any _).mono ?_
    rintro e w9 ⟨rfl, hb9⟩
    go_wp2_with fail
    go_ret
    exact ⟨rfl, hb9⟩
  have d1 : decide ((300 : Int) < (n : Int)) = false := by simp; omega
  by_cases h2 : 2000 < m
  · have d2 : decide ((2000 : Int) < (m : Int)) = true := by simp; omega
    clear hA hB hok
    go_enter Try.func5, Try.ntmps5
    go_wp2_with fail
    refine (awake3_any _).mono ?_
    rintro e w9 ⟨rfl, hb9⟩
    go_wp2_with fail
    go_ret
    exact ⟨rfl, hb9⟩
  have d2 : decide ((2000 : Int) < (m : Int)) = false := by simp; omega
  have hnn : n ≤ 300 := by omega
  have hmm : m ≤ 2000 := by omega
  have HLA := Lib.hid hA.len
  have HLB := Lib.hid hB.len
  have HA := Lib.hid hA
  have HBB := Lib.hid hB
  have HOK := Lib.hid hok
  have hdm : m ≤ d := hB.cap
  clear hn hm h1 h2 hA hB hok
  have HR0 := Lib.hid (Read_at0 HBB.out (by omega))
  go_enter Try.func5, Try.ntmps5
  go_wp2_with fail
  refine HR0.out.mono ?_
  rintro e w1 ⟨⟨B1, m1, e1, rfl, hO1, hm1⟩, hb1⟩
  have HRB := Lib.hid (rd_back (b := b))
  generalize hrd : rdFrame b 0 = R at hO1 hm1 HRB ⊢
  obtain ⟨xs, nx, er⟩ := R
  dsimp only at hO1 hm1 HRB ⊢
  have HOe := Lib.hid hO1
  have HM1 := Lib.hid hm1
  clear HR0 hrd hO1 hm1
  by_cases her : er = 0
  case' pos =>
    subst her
    obtain ⟨hev, htk, hx1, hx2⟩ := HRB.out rfl
    rw [HLB.out] at hx2
    have hm1' : m1 ≤ 4096 := by rw [HM1.out]; exact hev.most
    have hm1'' : 1 ≤ m1 := by rw [HM1.out]; exact hev.some_
    obtain ⟨B', m', d', he, hE, -, -⟩ := HOe.out.is_
    simp only [Value.slice.injEq] at he
    obtain ⟨rfl, rfl, rfl⟩ := he
    have HF1 := Lib.hid (Frame_any _ _ _ _ _ hE hm1'' hm1' hev.ok)
    have HTK := Lib.hid htk
    have q1 : decide ((nx : Int) < 1) = false := decide_eq_false (by omega)
    have q2 : decide ((m : Int) < (nx : Int)) = false := decide_eq_false (by omega)
    have q3 : nx ≤ d := by omega
    clear hev htk HRB HOe HM1 hE hm1' hm1''
    go_wp2_with fail
    refine HF1.out.mono ?_
    rintro e w2 ⟨v2, rfl, ho2, hb2⟩
    obtain ⟨A2, n2, c2, rfl, hI2⟩ := own_slice ho2
    have hBe1 := bstep0 hb1 hb2
    have hIb := (HBB.out.below hBe1).take' hx2
    have HS1 := Lib.hid (same_self hI2 hIb HTK.out)
    clear ho2 hI2 hIb HF1 hb1 hb2 HTK
    go_wp2_with fail
    refine HS1.out.mono ?_
    rintro e w3 ⟨rfl, rfl⟩
    clear HS1 q1 q2 q3
    go_wp2_with fail
    have hBe := Lib.hid hBe1
    clear hBe1
    generalize w2 = W at hBe ⊢
  case' neg =>
    have hne : ((er : Int) == 0) = false := beq_eq_false_iff_ne.2 (by omega)
    have hBe := Lib.hid hb1
    clear HRB HOe HM1 hb1
    go_wp2_with fail
    generalize w1 = W at hBe ⊢
  all_goals
    have hq0 : (W.alloc (.cells #[.int .i64 0, .int .u8 0, .int .i64 0, .int .i64 0, .int .i64 0] 24)).heap[W.heap.size]? = some (.cells #[.int .i64 0, .int .u8 0, .int .i64 0, .int .i64 0, .int .i64 0] 24 (0, 0)) := heap_alloc_new _ _
    have hbz : Below W.heap.size W (W.alloc (.cells #[.int .i64 0, .int .u8 0, .int .i64 0, .int .i64 0, .int .i64 0] 24)) := (Below.refl _ _).alloc (Nat.le_refl _) _
    have hzW : w.heap.size ≤ W.heap.size := hBe.out.size
    have hBz := hBe.out.trans (hbz.mono hzW)
    refine (copybytes_any (HBB.out.below hBz) (by omega)).mono ?_
    rintro e w4 ⟨B4, c4, rfl, hSp, hb4⟩
    have hq4 := (hb4.block _ (Array.getElem?_eq_some_iff.1 hq0).1).trans hq0
    have hB4 := hBz.trans (hb4.mono hBz.size)
    have hI4 := hSp.is_
    have hN4 : ∀ ad, B4 = some ad → ad.block ≠ W.heap.size := fun ad hA => by
      rcases hSp.at_ with ⟨h0, _⟩ | ⟨g, hg, hb, _⟩
      · rw [h0] at hA; cases hA
      · rw [hg] at hA; cases hA
        have hz : (W.alloc (.cells #[.int .i64 0, .int .u8 0, .int .i64 0, .int .i64 0, .int .i64 0] 24)).heap.size = W.heap.size + 1 := by simp
        rw [hz] at hb
        show g ≠ W.heap.size
        omega
    clear hq0 hbz hBz hSp hb4 hBe
    go_wp2_with fail
    go_loopw [15, 16] (fun v q wr => ∃ (j : Nat) (p : Ev) (Aq : Option Addr) (nL cq : Nat) (L : List UInt8), q = .int .i64 (j : Int) ∧ j ≤ n ∧ v = .slice Aq nL cq ∧ IsB wr Aq nL cq L ∧ (∀ ad, Aq = some ad → ad.block ≠ W.heap.size) ∧
      Hid (L = b ++ encEvs Ev.zero (l.take j)) ∧ Hid (p = lastEv Ev.zero (l.take j)) ∧ wr.heap[W.heap.size]? = some (.cells #[.int .i64 p.th, .int .u8 (p.op : Int), .int .i64 p.obj, .int .i64 p.a, .int .i64 p.b] 24 (0, 0)) ∧ Below w.heap.size w wr) (fun _ q _ => n - (intOf q).toNat)
    case atStart => exact ⟨0, Ev.zero, B4, m, c4, b, rfl, by omega, rfl, hI4, hN4, by show _ = _; simp [encEvs], by show _ = _; simp [lastEv], hq4, hB4⟩
    case round =>
      clear hI4 hN4 hq4 hB4
      obtain ⟨j, p, Aq, nL, cq, L, rfl, hj, rfl, hI, hN, hL, hp, hq, hBr⟩ := hrel
      by_cases hjn : j < n
      · obtain ⟨ab, ao, x, rfl, hx, c0, c1, c2, c3, c4'⟩ := (HA.out.below hBr).at_ hjn
        have hxo := HOK.out x (List.mem_of_getElem? hx)
        have hd : decide ((j : Int) < (n : Int)) = true := decide_eq_true (by omega)
        have i0 : (0 : Int) ≤ (j : Int) := by omega
        have i1 : (j : Int) < (n : Int) := by omega
        have a0 : wr.cell? ⟨W.heap.size, 0, none⟩ = some (.int .i64 p.th) := cell_of_row _ _ 0 _ _ _ hq
        have a1 : wr.cell? ⟨W.heap.size, 1, none⟩ = some (.int .u8 (p.op : Int)) := cell_of_row _ _ 1 _ _ _ hq
        have a2 : wr.cell? ⟨W.heap.size, 2, none⟩ = some (.int .i64 p.obj) := cell_of_row _ _ 2 _ _ _ hq
        have a3 : wr.cell? ⟨W.heap.size, 3, none⟩ = some (.int .i64 p.a) := cell_of_row _ _ 3 _ _ _ hq
        have a4 : wr.cell? ⟨W.heap.size, 4, none⟩ = some (.int .i64 p.b) := cell_of_row _ _ 4 _ _ _ hq
        have hnq : nL ≤ 800000 := by rw [← hI.len, hL.out]; have := put_most (b := b) (l := l) (by rw [HLB.out]; exact hmm) (by rw [HLA.out]; exact hnn) j; omega
        have HQ := Lib.hid hq
        have HX := Lib.hid hx
        have hzr := hBr.size
        have hlW := (Array.getElem?_eq_some_iff.1 hq).1
        have HBr := Lib.hid hBr
        clear hq hx hBr
        go_wp2_with fail
        refine wp_region_held_drew (S := fun w' => Below wr.heap.size wr w') (by kernel_rfl) ((Below.refl _ wr).drew) (fun hHeld => ?_)
        refine wpAnyH_take (i := 0) (v := ?_) rfl (by kernel_rfl) (by kernel_rfl) (by kernel_rfl) (fun _ _ _ h => h) (Or.inl ⟨by rfl, ?_⟩) hHeld ?_
        rotate_left
        · (intro w hSw; (try dsimp only at hSw); go_simp <;> rfl)
        simp only [Act.put, List.getElem_toArray, List.getElem_cons_zero, List.getElem_cons_succ, List.setIfInBounds_toArray, List.set_cons_zero, List.set_cons_succ]
        refine wpAnyH_take (i := 1) (v := ?_) rfl (by kernel_rfl) (by kernel_rfl) (by kernel_rfl) (fun _ _ _ h => h) (Or.inl ⟨by rfl, ?_⟩) hHeld ?_
        rotate_left
        · (intro wy hSw; have z0 := cell_below hSw _ _ a0; have z1 := cell_below hSw _ _ a1; have z2 := cell_below hSw _ _ a2; have z3 := cell_below hSw _ _ a3; have z4 := cell_below hSw _ _ a4; go_simp <;> rfl)
        simp only [Act.put, List.getElem_toArray, List.getElem_cons_zero, List.getElem_cons_succ, List.setIfInBounds_toArray, List.set_cons_zero, List.set_cons_succ]
        refine wpAnyH_take (i := 2) (v := ?_) rfl (by kernel_rfl) (by kernel_rfl) (by kernel_rfl) (fun _ _ _ h => h) (Or.inl ⟨by rfl, ?_⟩) hHeld ?_
        rotate_left
        · (intro w hSw; (try dsimp only at hSw); go_simp <;> rfl)
        simp only [Act.put, List.getElem_toArray, List.getElem_cons_zero, List.getElem_cons_succ, List.setIfInBounds_toArray, List.set_cons_zero, List.set_cons_succ]
        refine wpAnyH_take (i := 3) (v := ?_) rfl (by kernel_rfl) (by kernel_rfl) (by kernel_rfl) (fun _ _ _ h => h) (Or.inl ⟨by rfl, ?_⟩) hHeld ?_
        rotate_left
        · (intro w hSw; (try dsimp only at hSw); go_simp <;> rfl)
        simp only [Act.put, List.getElem_toArray, List.getElem_cons_zero, List.getElem_cons_succ, List.setIfInBounds_toArray, List.set_cons_zero, List.set_cons_succ]
        refine wpAnyH_take (i := 4) (v := ?_) rfl (by kernel_rfl) (by kernel_rfl) (by kernel_rfl) (fun _ _ _ h => h) (Or.inl ⟨by rfl, ?_⟩) hHeld ?_
        rotate_left
        · (intro w hSw; (try dsimp only at hSw); go_simp <;> rfl)
        simp only [Act.put, List.getElem_toArray, List.getElem_cons_zero, List.getElem_cons_succ, List.setIfInBounds_toArray, List.set_cons_zero, List.set_cons_succ]
        refine wpAnyH_take (i := 5) (v := ?_) rfl (by kernel_rfl) (by kernel_rfl) (by kernel_rfl) (fun _ _ _ h => h) (Or.inl ⟨by rfl, ?_⟩) hHeld ?_
        rotate_left
        · (intro wy hSw; have z0 := cell_below hSw _ _ c0; have z1 := cell_below hSw _ _ c1; have z2 := cell_below hSw _ _ c2; have z3 := cell_below hSw _ _ c3; have z4 := cell_below hSw _ _ c4'; go_simp <;> rfl)
        simp only [Act.put, List.getElem_toArray, List.getElem_cons_zero, List.getElem_cons_succ, List.setIfInBounds_toArray, List.set_cons_zero, List.set_cons_succ]
        refine wpAnyH_ready (rs := [6]) (by kernel_rfl) (by simp) ?_
        refine AllReadyH.cons rfl (fun K hK => ?_) AllReadyH.nil
        go_simp
        refine (Put_any Aq nL cq L x p _ hI.drew hnq hxo.op).mono ?_
        rintro e w5 ⟨v5, rfl, ho5, hb5⟩
        obtain ⟨A5, n5, c5, rfl, hI5, hN5⟩ := own_at ho5
        have hS5 := bstep0 ((Below.refl _ wr).drew) hb5
        clear hb5 ho5
        dsimp only
        refine hK.out _ _ hS5 (fun hHeld => ?_)
        clear hK K
        try simp only [Act.put, List.getElem_toArray, List.getElem_cons_zero, List.getElem_cons_succ, List.setIfInBounds_toArray, List.set_cons_zero, List.set_cons_succ]
        refine wpAnyH_take (i := 7) (v := ?_) rfl (by kernel_rfl) (by kernel_rfl) (by kernel_rfl) (fun _ _ _ h => h) (Or.inl ⟨by rfl, ?_⟩) hHeld ?_
        rotate_left
        · (intro w hSw; (try dsimp only at hSw); go_simp <;> rfl)
        simp only [Act.put, List.getElem_toArray, List.getElem_cons_zero, List.getElem_cons_succ, List.setIfInBounds_toArray, List.set_cons_zero, List.set_cons_succ]
        refine wpAnyH_done (by kernel_rfl) ?_ _
        have hq5 := (hS5.block _ hlW).trans HQ.out
        have c0' := cell_below hS5 _ _ c0
        have c1' := cell_below hS5 _ _ c1
        have c2' := cell_below hS5 _ _ c2
        have c3' := cell_below hS5 _ _ c3
        have c4'' := cell_below hS5 _ _ c4'
        have z0 : w5.cell? ⟨W.heap.size, 0, none⟩ = some (.int .i64 p.th) := cell_of_row _ _ 0 _ _ _ hq5
        have z1 : w5.cell? ⟨W.heap.size, 1, none⟩ = some (.int .u8 (p.op : Int)) := cell_of_row _ _ 1 _ _ _ hq5
        have z2 : w5.cell? ⟨W.heap.size, 2, none⟩ = some (.int .i64 p.obj) := cell_of_row _ _ 2 _ _ _ hq5
        have z3 : w5.cell? ⟨W.heap.size, 3, none⟩ = some (.int .i64 p.a) := cell_of_row _ _ 3 _ _ _ hq5
        have z4 : w5.cell? ⟨W.heap.size, 4, none⟩ = some (.int .i64 p.b) := cell_of_row _ _ 4 _ _ _ hq5
        have zf0 := free_of_row hq5 0
        have zf1 := free_of_row hq5 1
        have zf2 := free_of_row hq5 2
        have zf3 := free_of_row hq5 3
        have zf4 := free_of_row hq5 4
        obtain ⟨hs6, hA6⟩ := set5 hq5 (.int .i64 x.th) (.int .u8 (x.op : Int)) (.int .i64 x.obj) (.int .i64 x.a) (.int .i64 x.b)
        have hN6 : ∀ ad, A5 = some ad → ad.block ≠ W.heap.size := fun ad hA => by
          have h9 := hN5 ad hA
          have h8 : wr.drew.heap.size = wr.heap.size := rfl
          omega
        have hI6 := hI5.awayF hA6 fun ad hA e => hN6 ad hA e
        have hB5 := HBr.out.trans (hS5.mono hzr)
        have hB6 := hB5.trans (hA6.below (B := w.heap.size) hB5.size fun b hb => by subst hb; exact hzW)
        have hL6 : Hid (L ++ encEv p x = b ++ encEvs Ev.zero (l.take (j + 1))) := by
          show _ = _
          rw [put_step HX.out, hL.out, hp.out]
        have hp6 : Hid (x = lastEv Ev.zero (l.take (j + 1))) := (last_step HX.out).symm
        have HI6 := Lib.hid hI6
        have HB6 := Lib.hid hB6
        have HS6 := Lib.hid hs6
        clear a0 a1 a2 a3 a4 c0 c1 c2 c3 c4' hI hq5 hI5 hA6 hB5 hI6 hB6 hs6 hHeld hS5 hN5 hN
        go_wp2_with fail
        go_roundw
        case rel => exact ⟨j + 1, x, A5, n5, c5, L ++ encEv p x, by go_num, by omega, rfl, HI6.out, hN6, hL6, hp6, HS6.out, HB6.out⟩
        case measure => simp [intOf]; omega
      · obtain rfl : n = j := by omega
        have hd : decide ((n : Int) < (n : Int)) = false := by simp
        have hLL : Hid (L = b ++ encEvs Ev.zero l) := by
          show _ = _
          rw [hL.out, List.take_of_length_le (by rw [HLA.out]; exact Nat.le_refl _)]
        have hnq : nL ≤ 800000 := by rw [← hI.len, hL.out]; have := put_most (b := b) (l := l) (by rw [HLB.out]; exact hmm) (by rw [HLA.out]; exact hnn) n; omega
        have a0 : wr.cell? ⟨W.heap.size, 0, none⟩ = some (.int .i64 p.th) := cell_of_row _ _ 0 _ _ _ hq
        have a1 : wr.cell? ⟨W.heap.size, 1, none⟩ = some (.int .u8 (p.op : Int)) := cell_of_row _ _ 1 _ _ _ hq
        have a2 : wr.cell? ⟨W.heap.size, 2, none⟩ = some (.int .i64 p.obj) := cell_of_row _ _ 2 _ _ _ hq
        have a3 : wr.cell? ⟨W.heap.size, 3, none⟩ = some (.int .i64 p.a) := cell_of_row _ _ 3 _ _ _ hq
        have a4 : wr.cell? ⟨W.heap.size, 4, none⟩ = some (.int .i64 p.b) := cell_of_row _ _ 4 _ _ _ hq
        have zf0 := free_of_row hq 0
        have zf1 := free_of_row hq 1
        have zf2 := free_of_row hq 2
        have zf3 := free_of_row hq 3
        have zf4 := free_of_row hq 4
        obtain ⟨hs0, hA0⟩ := set5 hq (.int .i64 0) (.int .u8 0) (.int .i64 0) (.int .i64 0) (.int .i64 0)
        have hI0 := hI.awayF hA0 fun ad hA e => hN ad hA e
        have hB0 := hBr.trans (hA0.below (B := w.heap.size) hBr.size fun b hb => by subst hb; exact hzW)
        have HI0 := Lib.hid hI0
        have HB0 := Lib.hid hB0
        have HS0 := Lib.hid hs0
        clear hI hq hBr hA0 hI0 hB0 hs0 hL hp
        go_wp2_with fail
        clear a0 a1 a2 a3 a4 zf0 zf1 zf2 zf3 zf4
        have hI0 := HI0.out
        have hB0 := HB0.out
        have hs0 := HS0.out
        clear HI0 HB0 HS0
        generalize ((((wr.setCell ⟨W.heap.size, 0, none⟩ (.int .i64 0)).setCell ⟨W.heap.size, 1, none⟩ (.int .u8 0)).setCell ⟨W.heap.size, 2, none⟩ (.int .i64 0)).setCell ⟨W.heap.size, 3, none⟩ (.int .i64 0)).setCell ⟨W.heap.size, 4, none⟩ (.int .i64 0) = V at hI0 hB0 hs0 ⊢
        go_loopw [17, 18] (fun nx q wr => ∃ (j k : Nat) (p : Ev), q = .int .i64 (j : Int) ∧ j ≤ n ∧ nx = .int .i64 (k : Int) ∧ Hid (k = (b ++ encEvs Ev.zero (l.take j)).length) ∧ Hid (p = lastEv Ev.zero (l.take j)) ∧ IsB wr Aq nL cq L ∧
          wr.heap[W.heap.size]? = some (.cells #[.int .i64 p.th, .int .u8 (p.op : Int), .int .i64 p.obj, .int .i64 p.a, .int .i64 p.b] 24 (0, 0)) ∧ Below w.heap.size w wr) (fun _ q _ => n - (intOf q).toNat)
        case atStart => exact ⟨0, m, Ev.zero, rfl, by omega, rfl, by show _ = _; simp [encEvs, HLB.out], by show _ = _; simp [lastEv], hI0, hs0, hB0⟩
        case round =>
          clear hI0 hs0 hB0
          obtain ⟨j, k, p, rfl, hj, rfl, hk, hp, hI, hq, hBr⟩ := hrel
          by_cases hjn : j < n
          · obtain ⟨ab, ao, x, rfl, hx, c0, c1, c2, c3, c4'⟩ := (HA.out.below hBr).at_ hjn
            have hxo := HOK.out x (List.mem_of_getElem? hx)
            have hd : decide ((j : Int) < (n : Int)) = true := decide_eq_true (by omega)
            have hkn : k ≤ nL := by rw [← hI.len, hLL.out, hk.out]; exact put_le b l j
            have hge := get_step (b := b) (l := l) hx hxo
            have hri := get_rise (b := b) (l := l) hx
            have hlast := last_step hx
            rw [← hLL.out, ← hk.out, ← hp.out] at hge
            rw [← hk.out] at hri
            obtain ⟨k', hk'⟩ : ∃ k', Hid (k' = (b ++ encEvs Ev.zero (l.take (j + 1))).length) := ⟨_, rfl⟩
            rw [← hk'.out] at hge hri
            have HG := Lib.hid (Get_any Aq nL cq k L p wr hI (by omega) hkn)
            rw [hge] at HG
            unfold ansE at HG
            have a0 : wr.cell? ⟨W.heap.size, 0, none⟩ = some (.int .i64 p.th) := cell_of_row _ _ 0 _ _ _ hq
            have a1 : wr.cell? ⟨W.heap.size, 1, none⟩ = some (.int .u8 (p.op : Int)) := cell_of_row _ _ 1 _ _ _ hq
            have a2 : wr.cell? ⟨W.heap.size, 2, none⟩ = some (.int .i64 p.obj) := cell_of_row _ _ 2 _ _ _ hq
            have a3 : wr.cell? ⟨W.heap.size, 3, none⟩ = some (.int .i64 p.a) := cell_of_row _ _ 3 _ _ _ hq
            have a4 : wr.cell? ⟨W.heap.size, 4, none⟩ = some (.int .i64 p.b) := cell_of_row _ _ 4 _ _ _ hq
            have HQ := Lib.hid hq
            have HI := Lib.hid hI
            have HBr := Lib.hid hBr
            have HLS := Lib.hid hlast
            have q5 : decide ((k' : Int) ≤ (k : Int)) = false := decide_eq_false (by omega)
            have q6 : decide (k' ≤ k) = false := decide_eq_false (by omega)
            have hncap := (HA.out).cap
            have hzr := hBr.size
            have hlW := (Array.getElem?_eq_some_iff.1 hq).1
            clear hge hri hq hI hBr hlast hx hkn
            go_wp2_with fail
            refine HG.out.mono ?_
            rintro e w5 ⟨rfl, hb5⟩
            have hbx : Below w5.heap.size w5 (w5.alloc (.cells #[.int .i64 x.th, .int .u8 (x.op : Int), .int .i64 x.obj, .int .i64 x.a, .int .i64 x.b] 24)) := (Below.refl _ _).alloc (Nat.le_refl _) _
            have hb6 := bstep0 hb5 hbx
            have hqx : (w5.alloc (.cells #[.int .i64 x.th, .int .u8 (x.op : Int), .int .i64 x.obj, .int .i64 x.a, .int .i64 x.b] 24)).heap[w5.heap.size]? = some (.cells #[.int .i64 x.th, .int .u8 (x.op : Int), .int .i64 x.obj, .int .i64 x.a, .int .i64 x.b] 24 (0, 0)) := heap_alloc_new _ _
            have hq6 := (hb6.block _ hlW).trans HQ.out
            have hI6 := HI.out.below hb6
            have hB6 := HBr.out.trans (hb6.mono hzr)
            have hz5 : W.heap.size < w5.heap.size := Nat.lt_of_lt_of_le hlW hb5.size
            have c0' := cell_below hb6 _ _ c0
            have c1' := cell_below hb6 _ _ c1
            have c2' := cell_below hb6 _ _ c2
            have c3' := cell_below hb6 _ _ c3
            have c4'' := cell_below hb6 _ _ c4'
            have x0 : (w5.alloc (.cells #[.int .i64 x.th, .int .u8 (x.op : Int), .int .i64 x.obj, .int .i64 x.a, .int .i64 x.b] 24)).cell? ⟨w5.heap.size, 0, none⟩ = some (.int .i64 x.th) := cell_of_row _ _ 0 _ _ _ hqx
            have x1 : (w5.alloc (.cells #[.int .i64 x.th, .int .u8 (x.op : Int), .int .i64 x.obj, .int .i64 x.a, .int .i64 x.b] 24)).cell? ⟨w5.heap.size, 1, none⟩ = some (.int .u8 (x.op : Int)) := cell_of_row _ _ 1 _ _ _ hqx
            have x2 : (w5.alloc (.cells #[.int .i64 x.th, .int .u8 (x.op : Int), .int .i64 x.obj, .int .i64 x.a, .int .i64 x.b] 24)).cell? ⟨w5.heap.size, 2, none⟩ = some (.int .i64 x.obj) := cell_of_row _ _ 2 _ _ _ hqx
            have x3 : (w5.alloc (.cells #[.int .i64 x.th, .int .u8 (x.op : Int), .int .i64 x.obj, .int .i64 x.a, .int .i64 x.b] 24)).cell? ⟨w5.heap.size, 3, none⟩ = some (.int .i64 x.a) := cell_of_row _ _ 3 _ _ _ hqx
            have x4 : (w5.alloc (.cells #[.int .i64 x.th, .int .u8 (x.op : Int), .int .i64 x.obj, .int .i64 x.a, .int .i64 x.b] 24)).cell? ⟨w5.heap.size, 4, none⟩ = some (.int .i64 x.b) := cell_of_row _ _ 4 _ _ _ hqx
            have heq : ∀ W : World, (Op.equalIn 10000 24 (.agg #[.int .i64 x.th, .int .u8 (x.op : Int), .int .i64 x.obj, .int .i64 x.a, .int .i64 x.b]) (.agg #[.int .i64 x.th, .int .u8 (x.op : Int), .int .i64 x.obj, .int .i64 x.a, .int .i64 x.b])).run Try.prog W = .ok true W := fun W => by
              have := run_eqEv x x W
              rwa [decide_eq_true rfl] at this
            have i0 : (0 : Int) ≤ (j : Int) := by omega
            have i1 : (j : Int) < (n : Int) := by omega
            have HQ6 := Lib.hid hq6
            have HI6 := Lib.hid hI6
            have HB6 := Lib.hid hB6
            clear a0 a1 a2 a3 a4 c0 c1 c2 c3 c4' hb5 hbx hb6 hqx hq6 hI6 hB6 HG HQ HI HBr
            go_wp2_with fail
            go_quiet (fail)
            have hq7 : ((w5.alloc (.cells #[.int .i64 x.th, .int .u8 (x.op : Int), .int .i64 x.obj, .int .i64 x.a, .int .i64 x.b] 24)).drewN nq).heap[W.heap.size]? = some (.cells #[.int .i64 p.th, .int .u8 (p.op : Int), .int .i64 p.obj, .int .i64 p.a, .int .i64 p.b] 24 (0, 0)) := HQ6.out
            have hI7 : IsB ((w5.alloc (.cells #[.int .i64 x.th, .int .u8 (x.op : Int), .int .i64 x.obj, .int .i64 x.a, .int .i64 x.b] 24)).drewN nq) Aq nL cq L := HI6.out.drewN nq
            have hB7 : Below w.heap.size w ((w5.alloc (.cells #[.int .i64 x.th, .int .u8 (x.op : Int), .int .i64 x.obj, .int .i64 x.a, .int .i64 x.b] 24)).drewN nq) := below_drewN HB6.out nq
            have y0 : ((w5.alloc (.cells #[.int .i64 x.th, .int .u8 (x.op : Int), .int .i64 x.obj, .int .i64 x.a, .int .i64 x.b] 24)).drewN nq).cell? ⟨w5.heap.size, 0, none⟩ = some (.int .i64 x.th) := x0
            have y1 : ((w5.alloc (.cells #[.int .i64 x.th, .int .u8 (x.op : Int), .int .i64 x.obj, .int .i64 x.a, .int .i64 x.b] 24)).drewN nq).cell? ⟨w5.heap.size, 1, none⟩ = some (.int .u8 (x.op : Int)) := x1
            have y2 : ((w5.alloc (.cells #[.int .i64 x.th, .int .u8 (x.op : Int), .int .i64 x.obj, .int .i64 x.a, .int .i64 x.b] 24)).drewN nq).cell? ⟨w5.heap.size, 2, none⟩ = some (.int .i64 x.obj) := x2
            have y3 : ((w5.alloc (.cells #[.int .i64 x.th, .int .u8 (x.op : Int), .int .i64 x.obj, .int .i64 x.a, .int .i64 x.b] 24)).drewN nq).cell? ⟨w5.heap.size, 3, none⟩ = some (.int .i64 x.a) := x3
            have y4 : ((w5.alloc (.cells #[.int .i64 x.th, .int .u8 (x.op : Int), .int .i64 x.obj, .int .i64 x.a, .int .i64 x.b] 24)).drewN nq).cell? ⟨w5.heap.size, 4, none⟩ = some (.int .i64 x.b) := x4
            clear x0 x1 x2 x3 x4 c0' c1' c2' c3' c4'' HQ6 HI6 HB6
            generalize (w5.alloc (.cells #[.int .i64 x.th, .int .u8 (x.op : Int), .int .i64 x.obj, .int .i64 x.a, .int .i64 x.b] 24)).drewN nq = w7 at hq7 hI7 hB7 y0 y1 y2 y3 y4 ⊢
            have z0 : w7.cell? ⟨W.heap.size, 0, none⟩ = some (.int .i64 p.th) := cell_of_row _ _ 0 _ _ _ hq7
            have z1 : w7.cell? ⟨W.heap.size, 1, none⟩ = some (.int .u8 (p.op : Int)) := cell_of_row _ _ 1 _ _ _ hq7
            have z2 : w7.cell? ⟨W.heap.size, 2, none⟩ = some (.int .i64 p.obj) := cell_of_row _ _ 2 _ _ _ hq7
            have z3 : w7.cell? ⟨W.heap.size, 3, none⟩ = some (.int .i64 p.a) := cell_of_row _ _ 3 _ _ _ hq7
            have z4 : w7.cell? ⟨W.heap.size, 4, none⟩ = some (.int .i64 p.b) := cell_of_row _ _ 4 _ _ _ hq7
            have zf0 := free_of_row hq7 0
            have zf1 := free_of_row hq7 1
            have zf2 := free_of_row hq7 2
            have zf3 := free_of_row hq7 3
            have zf4 := free_of_row hq7 4
            obtain ⟨hs8, hA8⟩ := set5 hq7 (.int .i64 x.th) (.int .u8 (x.op : Int)) (.int .i64 x.obj) (.int .i64 x.a) (.int .i64 x.b)
            have hI8 := hI7.awayF hA8 fun ad hA e => hN ad hA e
            have hB8 := hB7.trans (hA8.below (B := w.heap.size) hB7.size fun b hb => by subst hb; exact hzW)
            have HI8 := Lib.hid hI8
            have HB8 := Lib.hid hB8
            have HS8 := Lib.hid hs8
            have hp8 : Hid (x = lastEv Ev.zero (l.take (j + 1))) := HLS.out.symm
            have hwne : w5.heap.size ≠ W.heap.size := by omega
            clear hq7 hI7 hB7 hA8 hI8 hB8 hs8 hz5 HLS
            go_wp2_with fail
            go_roundw
            case rel => exact ⟨j + 1, k', x, by go_num, by omega, rfl, hk', hp8, HI8.out, HS8.out, HB8.out⟩
            case measure => simp [intOf]; omega
          · obtain rfl : n = j := by omega
            have hd : decide ((n : Int) < (n : Int)) = false := by simp
            have hkq : k = nL := by rw [hk.out, ← hI.len, hLL.out, List.take_of_length_le (by rw [HLA.out]; exact Nat.le_refl _)]
            have hdk : ((k : Int) != (nL : Int)) = false := by simp; omega
            have HBr := Lib.hid hBr
            have HIA := Lib.hid (HA.out.below hBr)
            have HIB := Lib.hid (HBB.out.below hBr)
            have hzr := hBr.size
            clear hI hq hp hk hBr hN hLL
            by_cases hn0 : n = 0
            · subst hn0
              have HF0 := Lib.hid (Frame_none A c wr)
              go_wp2_with fail
              refine HF0.out.mono ?_
              rintro e w8 ⟨rfl, rfl⟩
              go_wp2_with fail
              refine (awake3_any _).mono ?_
              rintro e w9 ⟨rfl, hb9⟩
              go_wp2_with fail
              go_ret
              exact ⟨rfl, bstep0 HBr.out hb9⟩
            · have hev : Evs l := ⟨by rw [HLA.out]; omega, by rw [HLA.out]; omega, HOK.out⟩
              have HF0 := Lib.hid (Frame_any A n c l wr HIA.out (by omega) (by omega) HOK.out)
              have hdn : ((n : Int) == 0) = false := beq_eq_false_iff_ne.2 (by omega)
              have HEV := Lib.hid hev
              clear hev
              go_wp2_with fail
              refine HF0.out.mono ?_
              rintro e w8 ⟨v8, rfl, ho8, hb8⟩
              obtain ⟨N, hN8⟩ : ∃ N, Hid (N = (frameOf l).length) := ⟨_, rfl⟩
              have hN1 : 1 ≤ N := by rw [hN8.out, frameOf_length]; omega
              have hN2 : N ≤ 200000 := by
                rw [hN8.out, frameOf_length]
                have e1 := bodyOf_most HEV.out.most
                have e2 := Lib.uvarint_length64 (x := (bodyOf l).length) (by omega)
                omega
              obtain ⟨g, cg, rfl, hg1, hg2, hM⟩ := own_mine_at (n := N) ho8 hN8.out.symm hN1
              have hIf := hM.is_ (n := N) hN8.out.symm
              have hB8 := HBr.out.trans (hb8.mono hzr)
              have hz8 := hB8.size
              have hIb8 := HIB.out.below hb8
              have HM := Lib.hid hM
              have HIf := Lib.hid hIf
              have HIb8 := Lib.hid hIb8
              have HB8 := Lib.hid hB8
              have hgw : w.heap.size ≤ g := Nat.le_trans hzr hg1
              have hgl8 : g < w8.heap.size := hg2
              clear ho8 hg1 hg2 hM hIf hIb8 hB8 HF0 HIB HIA hb8 HBr hzr hdk hkq
              go_wp2_with fail
              refine (copybytes_any HIb8.out (by omega)).mono ?_
              rintro e w9 ⟨B9, c9, rfl, hSp, hb9⟩
              obtain ⟨A1, c1, wA, hr1, hS1, hbA⟩ := spare_append hSp hb9.size (HIf.out.below hb9) (by omega)
              have hAll := hb9.trans hbA
              have hIbA := HIb8.out.below hAll
              obtain ⟨A2, c2, wB, hr2, hS2, hbB⟩ := spare_append hS1 (Nat.le_trans hb9.size hbA.size) hIbA (by omega)
              have hAll2 := hAll.trans hbB
              have HM2 := Lib.hid (HM.out.below hAll2)
              have HBw := Lib.hid (HB8.out.trans (hAll2.mono hz8))
              have HRF := Lib.hid (Read_frame (N := N) hS2.is_ (List.append_assoc b (frameOf l) b) HEV.out (by omega) HLB.out hN8.out)
              have hgB : g < wB.heap.size := Nat.lt_of_lt_of_le hgl8 hAll2.size
              clear hSp hS1 hS2 hIbA hAll hAll2 hbA hbB hb9 HM HIf HIb8 HB8 hgl8
              go_wp2_with (at_builtin; first
                | (refine wpList_run _ rfl (.tmp 147) (.tmp 148) 27 rfl (R := fun v' w' => v' = .slice A1 (m + N) c1 ∧ w' = wA) ⟨_, _, hr1, rfl, rfl⟩ ?_; rintro v' w' ⟨rfl, rfl⟩)
                | (refine wpList_run _ rfl (.tmp 149) (.tmp 150) 27 rfl (R := fun v' w' => v' = .slice A2 (m + N + m) c2 ∧ w' = wB) ⟨_, _, hr2, rfl, rfl⟩ ?_; rintro v' w' ⟨rfl, rfl⟩))
              refine HRF.out.mono ?_
              rintro e w10 ⟨⟨B10, q10, d10, rfl, hO10, hq10⟩, hb10⟩
              have hM10 := HM2.out.below hb10
              have hB10 := HBw.out.trans (hb10.mono HBw.out.size)
              obtain ⟨B', n', d', he, hE, -, -⟩ := hO10.is_
              simp only [Value.slice.injEq] at he
              obtain ⟨rfl, rfl, rfl⟩ := he
              have hle10 : q10 ≤ 1000000 := by rw [hq10, HLA.out]; omega
              have HS10 := Lib.hid (sameev_self hE (HA.out.below hB10) hle10 (by omega))
              have ws : wrap64 ((m : Int) + (N : Int)) = (m : Int) + (N : Int) := by unfold wrap64; omega
              have HM10 := Lib.hid hM10
              have HB10 := Lib.hid hB10
              have hg10 : g < w10.heap.size := Nat.lt_of_lt_of_le hgB hb10.size
              clear HRF HM2 HBw hO10 hq10 hb10 hM10 hB10 hE hle10 hgB hr1 hr2
              go_wp2_with fail
              refine HS10.out.mono ?_
              rintro e w11 ⟨rfl, hb11⟩
              have hM11 := HM10.out.below hb11
              have hB11 := HB10.out.trans (hb11.mono HB10.out.size)
              have hk1 := pickOf_lt at_ (n := N) (by omega)
              have HPK := fun W => Lib.hid (pick_any at_ N W (by omega) hat)
              obtain ⟨k1, hk1e⟩ : ∃ k1, k1 = pickOf at_ N := ⟨_, rfl⟩
              rw [← hk1e] at hk1 HPK
              have hcg : N ≤ cg := by
                have := (hM11.is_ (n := N) hN8.out.symm).cap
                exact this
              have hkc : k1 ≤ cg := by omega
              have hIcut := (hM11.is_ (n := N) hN8.out.symm).take' (n := k1) (by omega)
              have HRC := Lib.hid (Read_lit hIcut (by omega) (rd_cut HEV.out (k := k1) (by rw [← hN8.out]; exact hk1)))
              have HM11 := Lib.hid hM11
              have HB11 := Lib.hid hB11
              clear HS10 HM10 HB10 hb11 hM11 hB11 hIcut hk1e ws
              go_wp2_with fail
              refine (HPK _).out.mono ?_
              rintro e w' ⟨rfl, rfl⟩
              go_wp2_with fail
              refine HRC.out.mono ?_
              rintro e w12 ⟨⟨B12, q12, d12, rfl, _, _⟩, hb12⟩
              have hM12 := HM11.out.below hb12
              have hB12 := HB11.out.trans (hb12.mono HB11.out.size)
              have HM12 := Lib.hid hM12
              have HB12 := Lib.hid hB12
              clear HRC HM11 HB11 hb12 hM12 hB12
              by_cases htu : tu = 0
              · have htz : ((tu.toNat : Int) != 0) = false := by rw [bne_byte, htu]; rfl
                clear htu
                have hFin := HB12.out
                go_wp2_with fail
                refine (awake3_any _).mono ?_
                rintro e wz ⟨rfl, hbz⟩
                go_wp2_with fail
                go_ret
                exact ⟨rfl, hFin.trans (hbz.mono hFin.size)⟩
              · have htz : ((tu.toNat : Int) != 0) = true := by rw [bne_byte]; exact bne_iff_ne.2 htu
                obtain ⟨x, hx⟩ : ∃ x, (frameOf l)[k1]? = some x := ⟨(frameOf l)[k1]'(by rw [← hN8.out]; exact hk1), List.getElem?_eq_getElem _⟩
                have x0 := HM12.out.cell hx
                have f0 := HM12.out.free k1
                have b0 : (0 : Int) ≤ (k1 : Int) := by omega
                have b1 : (k1 : Int) < (N : Int) := by omega
                have hMp := HM12.out.put k1 (x ^^^ tu) _ (u8_xor_bytes x tu).symm
                have hIp := hMp.is_ (n := N) (by rw [List.length_set]; exact hN8.out.symm)
                have hBp := HB12.out.setCell (p := ⟨g, k1, none⟩) hgw (.int .u8 (bits .xor .u8 (x.toNat : Int) (tu.toNat : Int)))
                have HRX := Lib.hid (Read_at0 hIp (by omega))
                have HNE := Lib.hid (rd_other hx htu)
                have HEVX := Lib.hid (fun h => (rdFrame_sound (l := (frameOf l).set k1 (x ^^^ tu)) (k := 0) h).1)
                have HBp := Lib.hid hBp
                clear hx hMp hIp hBp htu HM12 HB12
                go_wp2_with fail
                refine (HPK _).out.mono ?_
                rintro e w' ⟨rfl, rfl⟩
                go_wp2_with fail
                generalize rdFrame ((frameOf l).set k1 (x ^^^ tu)) 0 = R at HRX HNE HEVX
                obtain ⟨ys, ny, ey⟩ := R
                dsimp only at HRX HNE HEVX
                refine HRX.out.mono ?_
                rintro e w14 ⟨⟨B14, q14, d14, rfl, hO14, hq14⟩, hb14⟩
                have hFin := HBp.out.trans (hb14.mono HBp.out.size)
                by_cases hey : ey = 0
                · subst hey
                  obtain ⟨B', n', d', he, hE, -, -⟩ := hO14.is_
                  simp only [Value.slice.injEq] at he
                  obtain ⟨rfl, rfl, rfl⟩ := he
                  have hle14 : q14 ≤ 1000000 := by rw [hq14]; have := (HEVX.out rfl).most; omega
                  have HS14 := Lib.hid (sameev_not hE (HA.out.below hFin) hle14 (by omega) (HNE.out rfl))
                  have HFin := Lib.hid hFin
                  clear HRX HNE HEVX hO14 hq14 hE hle14 hb14 hFin x0 f0 HBp
                  go_wp2_with fail
                  refine HS14.out.mono ?_
                  rintro e w15 ⟨rfl, hb15⟩
                  have hFin := HFin.out.trans (hb15.mono HFin.out.size)
                  clear HS14
                  go_wp2_with fail
                  refine (awake3_any _).mono ?_
                  rintro e wz ⟨rfl, hbz⟩
                  go_wp2_with fail
                  go_ret
                  exact ⟨rfl, hFin.trans (hbz.mono hFin.size)⟩
                · have hney : ((ey : Int) == 0) = false := beq_eq_false_iff_ne.2 (by omega)
                  clear HRX HNE HEVX hO14 hq14 hb14 x0 f0 HBp
                  go_wp2_with fail
                  refine (awake3_any _).mono ?_
                  rintro e wz ⟨rfl, hbz⟩
                  go_wp2_with fail
                  go_ret
                  exact ⟨rfl, hFin.trans (hbz.mono hFin.size)⟩
end Go.Proofs.Ytindmilfkcggaaa
