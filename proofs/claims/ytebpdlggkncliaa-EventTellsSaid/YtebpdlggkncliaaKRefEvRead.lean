/-
  The document's own Read (amanuensisref03).
-/
import Derived.Test.YtebpdlggkncliaaKRefEvGet
import Derived.Deep.QuietTactic
set_option linter.unusedVariables false
set_option linter.unusedSimpArgs false
namespace Go.Proofs.Ytebpdlggkncliaa
open Go.RowKit
open Go.Lib (byteCells byteCells_length byteCells_append uvarint)

theorem take_eq_of {x y : List UInt8} {n : Nat} (hx : x.length = n) (hy : y.length = n) (h : x.take n = y.take n) : x = y := by
  rwa [List.take_of_length_le (by omega), List.take_of_length_le (by omega)] at h
set_option maxRecDepth 100000 in
set_option maxHeartbeats 4000000 in
theorem refRead_from (A : Option Addr) (n c : Nat) (kk : Int) (l : List UInt8) (a nx f : Nat) (w : World) (h : IsB w A n c l) (hn : n ≤ 1000000) (ha : a < 18446744073709551616) (hnx : nx ≤ n)
    (hU : Calls Try.prog 101 #[.slice A n c, .int .i64 kk] w fun e' w' => e' = .returned (.tuple #[.int .u64 (a : Int), .int .i64 (nx : Int), .int .i64 (f : Int)]) ∧ Below w.heap.size w w') :
    Calls Try.prog 47 #[.slice A n c, .int .i64 kk] w fun e w' => ReadSays (rdFrom l nx a f) w.heap.size e w' ∧ Below w.heap.size w w' := by
  have HU := Lib.hid hU
  have HL := Lib.hid h.len
  clear hU
  by_cases hf : f = 0
  · subst hf
    have d1 : (((0 : Nat) : Int) != 0) = false := by simp
    by_cases hbig : 262144 < a
    · have d2 : decide ((262144 : Int) < (a : Int)) = true := by simp; omega
      have hr : rdFrom l nx a 0 = ([], 0, 3) := by unfold rdFrom; rw [if_neg (by simp), if_pos hbig]
      rw [hr]
      clear h hr hbig
      go_enter Try.func47, Try.ntmps47
      go_wp2_with fail
      refine HU.out.mono ?_
      rintro e w' ⟨rfl, hb1⟩
      go_wp2_with fail
      go_ret3
      exact ⟨readSays_none, hb1⟩
    · have d2 : decide ((262144 : Int) < (a : Int)) = false := by simp; omega
      have e1 : IntKind.i64.wrap (a : Int) = (a : Int) := by rw [IntKind.wrap_i64]; omega
      have wa1 : wrap64 ((a : Int) + 4) = (a : Int) + 4 := by unfold wrap64; omega
      have wa2 : wrap64 ((n : Int) - (nx : Int)) = (n : Int) - (nx : Int) := by unfold wrap64; omega
      have wa3 : wrap64 ((nx : Int) + (a : Int)) = (nx : Int) + (a : Int) := by unfold wrap64; omega
      by_cases hsh : n < nx + a + 4
      · have d3 : decide ((n : Int) - (nx : Int) < (a : Int) + 4) = true := decide_eq_true (by omega)
        have hr : rdFrom l nx a 0 = ([], 0, 11) := by unfold rdFrom; rw [if_neg (by simp), if_neg hbig, if_pos (by rw [HL.out]; omega)]
        rw [hr]
        clear h hr hsh
        go_enter Try.func47, Try.ntmps47
        go_wp2_with fail
        refine HU.out.mono ?_
        rintro e w' ⟨rfl, hb1⟩
        go_wp2_with fail
        go_ret3
        exact ⟨readSays_none, hb1⟩
      · have d3 : decide ((n : Int) - (nx : Int) < (a : Int) + 4) = false := decide_eq_false (by omega)
        have hcut := h.cut (i := nx) (m := a) (by omega)
        have hrun := fun W => run_cut W A n c nx (nx + a) (by omega) (by have := h.cap; omega)
        rw [show nx + a - nx = a by omega] at hrun
        generalize (if c = nx then A else A.map (·.add nx)) = A' at hcut hrun
        generalize c - nx = c' at hcut hrun
        have hpush : (((nx + a : Nat)) : Int) = (nx : Int) + (a : Int) := by omega
        rw [hpush] at hrun
        have hlen4 : ((l.drop (nx + a)).take 4).length = 4 := by rw [List.length_take, List.length_drop, HL.out]; omega
        have hlena : ((l.drop nx).take a).length = a := by rw [List.length_take, List.length_drop, HL.out]; omega
        have htl : ∀ i y, ((l.drop (nx + a)).take 4)[i]? = some y → l[nx + a + i]? = some y := by
          intro i y hy
          have hi : i < 4 := by have := (List.getElem?_eq_some_iff.1 hy).1; rw [hlen4] at this; exact this
          rw [List.getElem?_take_of_lt hi, List.getElem?_drop] at hy
          exact hy
        have hr : rdFrom l nx a 0 = if (l.drop (nx + a)).take 4 ≠ sumBytes (crc ((l.drop nx).take a)) then ([], 0, 12) else match evsOf ((l.drop nx).take a) with
            | none => ([], 0, 10)
            | some es => (es, nx + a + 4, 0) := by
          conv => lhs; unfold rdFrom; rw [if_neg (by simp), if_neg hbig, if_neg (by rw [HL.out]; omega)]
          rfl
        generalize (l.drop nx).take a = body at hr hcut hlena
        generalize (l.drop (nx + a)).take 4 = tl at hr hlen4 htl
        have HR := Lib.hid hr
        have HLA := Lib.hid hlena
        have HL4 := Lib.hid hlen4
        have HTL := Lib.hid htl
        have HI := Lib.hid h
        have HC := Lib.hid hcut
        have HA : Hid (a ≤ 262144) := by show _ ≤ _; omega
        have HS : Hid (nx + a + 4 ≤ n) := by show _ ≤ _; omega
        clear h hr hsh hpush hbig hcut hlena hlen4 htl
        go_enter Try.func47, Try.ntmps47
        go_wp2_with fail
        refine HU.out.mono ?_
        rintro e w1 ⟨rfl, hb1⟩
        have HC1 := Lib.hid (HC.out.below hb1)
        clear HU HC
        go_wp2_with fail
        refine (refSeal_any A' a c' body w1 HC1.out (by have := HA.out; omega)).mono ?_
        rintro e w2 ⟨B, m, d, rfl, hI2, hb2⟩
        obtain rfl : m = a + 4 := by
          have := hI2.len
          unfold sealed at this
          rw [List.length_append, sumBytes_length, HLA.out] at this
          exact this.symm
        have HC2 := Lib.hid (HC1.out.below hb2)
        have HB2 := Lib.hid (hb1.trans (hb2.mono hb1.size))
        have HI2 := Lib.hid (HI.out.below HB2.out)
        have HSL := Lib.hid hI2
        clear hI2 hb1 hb2 HC1 HI hrun
        go_wp2_with fail
        obtain ⟨bs, os, rfl, hcs⟩ : ∃ bs os, B = some ⟨bs, os, none⟩ ∧ ∀ i u, (sealed body)[i]? = some u → w2.cell? ⟨bs, os + i, none⟩ = some (.int .u8 (u.toNat : Int)) := by
          rcases HSL.out.src with h0 | h0
          · exfalso
            have := HSL.out.len
            rw [h0] at this
            simp at this
          · exact h0
        obtain ⟨bl, ol, rfl, hcl⟩ : ∃ bl ol, A = some ⟨bl, ol, none⟩ ∧ ∀ i u, l[i]? = some u → w2.cell? ⟨bl, ol + i, none⟩ = some (.int .u8 (u.toNat : Int)) := by
          rcases HI2.out.src with h0 | h0
          · exfalso
            have h1 := HL.out
            have h2 := HS.out
            rw [h0] at h1
            simp at h1
            omega
          · exact h0
        have hsb : ∀ i u, (sumBytes (crc body))[i]? = some u → w2.cell? ⟨bs, os + (a + i), none⟩ = some (.int .u8 (u.toNat : Int)) := by
          intro i u hu
          refine hcs (a + i) u ?_
          unfold sealed
          rw [List.getElem?_append_right (by rw [HLA.out]; omega), HLA.out, Nat.add_sub_cancel_left]
          exact hu
        have htb : ∀ i u, tl[i]? = some u → w2.cell? ⟨bl, ol + (nx + a + i), none⟩ = some (.int .u8 (u.toNat : Int)) := fun i u hu => hcl _ _ (HTL.out i u hu)
        have hsl4 : (sumBytes (crc body)).length = 4 := sumBytes_length _
        obtain ⟨sb, hsbe⟩ : ∃ sb, sb = sumBytes (crc body) := ⟨_, rfl⟩
        rw [← hsbe] at hsb hsl4 HR
        have HSB := Lib.hid hsb
        have HTB := Lib.hid htb
        have HSL4 := Lib.hid hsl4
        clear hcs hcl hsb htb hsl4 hsbe HTL
        go_loopw [12] (fun q wr => ∃ i : Nat, q = .int .i64 (i : Int) ∧ i ≤ 4 ∧ Hid (sb.take i = tl.take i) ∧ Below w2.heap.size w2 wr) (fun q _ => 4 - (intOf q).toNat)
        case atStart => exact ⟨0, rfl, by omega, rfl, Below.refl _ _⟩
        case round =>
          obtain ⟨i, rfl, hi, heq, hB⟩ := hrel
          by_cases hi4 : i < 4
          · have g1 : decide ((i : Int) < 4) = true := decide_eq_true (by omega)
            obtain ⟨x, hx⟩ : ∃ x, sb[i]? = some x := ⟨sb[i]'(by rw [HSL4.out]; exact hi4), List.getElem?_eq_getElem _⟩
            obtain ⟨y, hy⟩ : ∃ y, tl[i]? = some y := ⟨tl[i]'(by rw [HL4.out]; exact hi4), List.getElem?_eq_getElem _⟩
            have cx := cell_below hB _ _ (HSB.out i x hx)
            have cy := cell_below hB _ _ (HTB.out i y hy)
            have hA := HA.out
            have hS := HS.out
            have s1 : IntKind.i64.wrap ((a : Int) + (i : Int)) = (a : Int) + (i : Int) := IntWalk.i64_in _ ⟨by omega, by omega⟩
            have s2 : IntKind.i64.wrap ((nx : Int) + (a : Int)) = (nx : Int) + (a : Int) := IntWalk.i64_in _ ⟨by omega, by omega⟩
            have s3 : IntKind.i64.wrap ((nx : Int) + (a : Int) + (i : Int)) = (nx : Int) + (a : Int) + (i : Int) := IntWalk.i64_in _ ⟨by omega, by omega⟩
            have n1 : ((a : Int) + (i : Int)).toNat = a + i := by omega
            have n2 : ((nx : Int) + (a : Int) + (i : Int)).toNat = nx + a + i := by omega
            have b1 : (0 : Int) ≤ (a : Int) + (i : Int) := by omega
            have b2 : (a : Int) + (i : Int) < (a : Int) + 4 := by omega
            have b3 : (0 : Int) ≤ (nx : Int) + (a : Int) + (i : Int) := by omega
            have b4 : (nx : Int) + (a : Int) + (i : Int) < (n : Int) := by omega
            have HX := Lib.hid hx
            have HY := Lib.hid hy
            clear hx hy hA hS
            by_cases hxy : x = y
            · have e0 : ((x.toNat : Int) != (y.toNat : Int)) = false := by rw [hxy]; simp
              have HE : Hid (sb.take (i + 1) = tl.take (i + 1)) := by
                show _ = _
                obtain ⟨h1, e1⟩ := List.getElem?_eq_some_iff.1 HX.out
                obtain ⟨h2, e2⟩ := List.getElem?_eq_some_iff.1 HY.out
                rw [List.take_succ_eq_append_getElem h1, List.take_succ_eq_append_getElem h2, e1, e2, heq.out, hxy]
              clear hxy
              go_wp2_with fail
              go_quiet (fail)
              go_wp2_with fail
              go_roundw
              case rel => exact ⟨i + 1, by go_num, by omega, HE, below_drewN hB _⟩
              case measure => simp [intOf]; omega
            · have e0 : ((x.toNat : Int) != (y.toNat : Int)) = true := by
                rw [bne_iff_ne]
                exact fun h => hxy (UInt8.toNat.inj (Int.ofNat.inj h))
              have hne : rdFrom l nx a 0 = ([], 0, 12) := by
                rw [HR.out, if_pos]
                intro h
                have h1 := HX.out
                rw [← h, HY.out] at h1
                exact hxy (Option.some.inj h1).symm
              have HNE := Lib.hid hne
              have hBf := HB2.out.trans ((below_drewN hB 1).mono HB2.out.size)
              clear hne hxy
              go_wp2_with fail
              go_quiet (fail)
              go_wp2_with fail
              go_ret3
              refine ⟨by rw [HNE.out]; exact readSays_none, ?_⟩
              exact HB2.out.trans ((below_drewN hB _).mono HB2.out.size)
          · obtain rfl : i = 4 := by omega
            have g1 : decide (((4 : Nat) : Int) < 4) = false := by decide
            have hts : sb = tl := take_eq_of HSL4.out HL4.out heq.out
            have hrr : rdFrom l nx a 0 = match evsOf body with
              | none => ([], 0, 10)
              | some es => (es, nx + a + 4, 0) := by
              rw [HR.out, if_neg (by rw [hts]; simp)]
            have HRR := Lib.hid hrr
            have hC := HC2.out.below hB
            have HBr := Lib.hid (HB2.out.trans (hB.mono HB2.out.size))
            have hG := refGetUint_any A' a c' 0 body wr hC (by have := HA.out; omega) (by omega)
            have HC := Lib.hid hC
            rw [List.drop_zero] at hG
            have hlt := getU_lt body
            have hle := getU_le body
            rw [HLA.out] at hle
            have HEV : Hid (evsOf body = if (getU body).2.2 ≠ 0 ∨ (getU body).1 = 0 ∨ 4096 < (getU body).1 then none else match readEvs (getU body).1 Ev.zero body (getU body).2.1 with
              | some r => if r.2 = body.length then some r.1 else none
              | none => none) := rfl
            unfold ansU nextU at hG
            rw [Nat.zero_add] at hG
            generalize getU body = q at hG hlt hle HEV
            obtain ⟨N, j0, ff⟩ := q
            dsimp only at hG hlt hle HEV
            have HG := Lib.hid hG
            have HLE := Lib.hid hle
            clear hG hle hts hrr heq HR hB HB2 HSL HI2 HSB HTB HC2 hC HSL4 HL4
            by_cases hbad : ff ≠ 0 ∨ N = 0 ∨ 4096 < N
            · have hev : evsOf body = none := by rw [HEV.out, if_pos hbad]
              have hfin : rdFrom l nx a 0 = ([], 0, 10) := by rw [HRR.out, hev]
              have HF := Lib.hid hfin
              clear hev HEV hfin HRR
              by_cases h1 : ff = 0
              · have d4 : ((ff : Int) != 0) = false := by simp; omega
                by_cases h2 : N = 0
                · have d5 : decide ((N : Int) < 1) = true := decide_eq_true (by omega)
                  clear hbad
                  go_wp2_with fail
                  refine HG.out.mono ?_
                  rintro e w4 ⟨rfl, hb4⟩
                  have hB4 := HBr.out.trans (hb4.mono HBr.out.size)
                  go_wp2_with fail
                  go_ret3
                  exact ⟨by rw [HF.out]; exact readSays_none, hB4⟩
                · have d5 : decide ((N : Int) < 1) = false := decide_eq_false (by omega)
                  have d6 : decide ((4096 : Int) < (N : Int)) = true := decide_eq_true (by omega)
                  clear hbad
                  go_wp2_with fail
                  refine HG.out.mono ?_
                  rintro e w4 ⟨rfl, hb4⟩
                  have hB4 := HBr.out.trans (hb4.mono HBr.out.size)
                  go_wp2_with fail
                  go_ret3
                  exact ⟨by rw [HF.out]; exact readSays_none, hB4⟩
              · have d4 : ((ff : Int) != 0) = true := by simp; omega
                clear hbad
                go_wp2_with fail
                refine HG.out.mono ?_
                rintro e w4 ⟨rfl, hb4⟩
                have hB4 := HBr.out.trans (hb4.mono HBr.out.size)
                go_wp2_with fail
                go_ret3
                exact ⟨by rw [HF.out]; exact readSays_none, hB4⟩
            · obtain rfl : ff = 0 := by omega
              have hev : evsOf body = match readEvs N Ev.zero body j0 with
                | some r => if r.2 = body.length then some r.1 else none
                | none => none := by rw [HEV.out, if_neg hbad]
              have HE := Lib.hid hev
              have d4 : (((0 : Nat) : Int) != 0) = false := by simp
              have d5 : decide ((N : Int) < 1) = false := decide_eq_false (by omega)
              have d6 : decide ((4096 : Int) < (N : Int)) = false := decide_eq_false (by omega)
              have hN1 : N ≤ 4096 := by omega
              have eN : IntKind.i64.wrap (N : Int) = (N : Int) := by rw [IntKind.wrap_i64]; omega
              have hj0 : j0 ≤ a := HLE.out rfl
              rw [if_pos rfl] at HG
              clear HLE hev HEV hbad
              go_wp2_with fail
              refine HG.out.mono ?_
              rintro e w4 ⟨rfl, hb4⟩
              have HC4 := Lib.hid (HC.out.below hb4)
              have HB4 := Lib.hid (HBr.out.trans (hb4.mono HBr.out.size))
              clear HG HC HBr hb4
              have hab : (w4.alloc (.cells #[.int .i64 0, .int .u8 0, .int .i64 0, .int .i64 0, .int .i64 0] 70)).heap[w4.heap.size]? = some (.cells #[.int .i64 0, .int .u8 0, .int .i64 0, .int .i64 0, .int .i64 0] 70 (0, 0)) := heap_alloc_new _ _
              have hb5 : Below w4.heap.size w4 (w4.alloc (.cells #[.int .i64 0, .int .u8 0, .int .i64 0, .int .i64 0, .int .i64 0] 70)) := (Below.refl _ _).alloc (Nat.le_refl _) _
              go_wp2_with fail
              generalize w4.alloc (.cells #[.int .i64 0, .int .u8 0, .int .i64 0, .int .i64 0, .int .i64 0] 70) = W5 at hab hb5 ⊢
              obtain ⟨h16, hh16⟩ : ∃ h, Hid (h = w4.heap.size) := ⟨_, rfl⟩
              rw [← hh16.out] at hab ⊢
              go_loopw [14, 15, 17] (fun av v q wr => ∃ (j k : Nat) (acc : List Ev) (p : Ev), q = .int .i64 (j : Int) ∧ j ≤ N ∧ av = .int .i64 (k : Int) ∧ k ≤ a ∧ acc.length = j ∧ OwnE wr (h16 + 1) v acc ∧
                Hid (readEvs N Ev.zero body j0 = (readEvs (N - j) p body k).map fun r => (acc ++ r.1, r.2)) ∧ wr.heap[h16]? = some (.cells #[.int .i64 p.th, .int .u8 (p.op : Int), .int .i64 p.obj, .int .i64 p.a, .int .i64 p.b] 70 (0, 0)) ∧ Below w4.heap.size w4 wr) (fun _ _ q _ => N - (intOf q).toNat)
              case atStart =>
                refine ⟨0, j0, [], Ev.zero, rfl, by omega, rfl, hj0, rfl, OwnE.nil _ _, ?_, hab, hb5⟩
                show _ = _
                rw [Nat.sub_zero]
                cases readEvs N Ev.zero body j0 <;> simp
              case round =>
                clear hab hb5 hj0
                obtain ⟨j, k, acc, p, rfl, hj, rfl, hk, hacc, hO, hR, hab, hB⟩ := hrel
                obtain ⟨A2, n2, c2, rfl, _, hn2, _⟩ := hO.is_
                have hn3 : n2 = j := hn2.trans hacc
                clear hn2
                subst n2
                have HACC := Lib.hid hacc
                clear hacc
                by_cases hjN : j < N
                · have hd : decide ((j : Int) < (N : Int)) = true := decide_eq_true (by omega)
                  obtain ⟨a0, a1, a2, a3, a4⟩ := cells5 hab
                  have HAB := Lib.hid hab
                  have hla := (Array.getElem?_eq_some_iff.1 hab).1
                  have HGE := Lib.hid (refGet_any A' a c' k body p wr (HC4.out.below hB) (by have := HA.out; omega) hk)
                  have hR' : Hid (readEvs N Ev.zero body j0 = (if (getEv p body k).2.2 = 0 then (readEvs (N - (j + 1)) (getEv p body k).1 body (getEv p body k).2.1).map fun r => ((getEv p body k).1 :: r.1, r.2) else none).map fun r => (acc ++ r.1, r.2)) := by
                    show _ = _
                    rw [hR.out, show N - j = (N - (j + 1)) + 1 by omega]
                    rfl
                  have hgl := getEv_le (p := p) (l := body) (k := k)
                  rw [HLA.out] at hgl
                  unfold ansE at HGE
                  generalize getEv p body k = q at HGE hR' hgl
                  obtain ⟨x, k', f⟩ := q
                  dsimp only at HGE hR' hgl
                  have HGL := Lib.hid hgl
                  clear hR hab hgl
                  go_wp2_with fail
                  refine HGE.out.mono ?_
                  rintro e w5 ⟨rfl, hb5⟩
                  have hab5 := (hb5.block _ hla).trans HAB.out
                  have hO5 := hO.below hb5
                  have hB5 := hB.trans (hb5.mono hB.size)
                  have hx5 : (w5.alloc (.cells #[.int .i64 x.th, .int .u8 (x.op : Int), .int .i64 x.obj, .int .i64 x.a, .int .i64 x.b] 70)).heap[w5.heap.size]? = some (.cells #[.int .i64 x.th, .int .u8 (x.op : Int), .int .i64 x.obj, .int .i64 x.a, .int .i64 x.b] 70 (0, 0)) := heap_alloc_new _ _
                  obtain ⟨x0, x1, x2, x3, x4⟩ := cells5 hx5
                  have hb6 : Below w5.heap.size w5 (w5.alloc (.cells #[.int .i64 x.th, .int .u8 (x.op : Int), .int .i64 x.obj, .int .i64 x.a, .int .i64 x.b] 70)) := (Below.refl _ _).alloc (Nat.le_refl _) _
                  have hz6 : (w5.alloc (.cells #[.int .i64 x.th, .int .u8 (x.op : Int), .int .i64 x.obj, .int .i64 x.a, .int .i64 x.b] 70)).heap.size = w5.heap.size + 1 := Array.size_push _
                  clear a0 a1 a2 a3 a4 hO hB HGE
                  by_cases hf : f = 0
                  · subst hf
                    rw [if_pos rfl] at hR'
                    have hk' := HGL.out rfl hk
                    have hb7 : Below (w5.alloc (.cells #[.int .i64 x.th, .int .u8 (x.op : Int), .int .i64 x.obj, .int .i64 x.a, .int .i64 x.b] 70)).heap.size (w5.alloc (.cells #[.int .i64 x.th, .int .u8 (x.op : Int), .int .i64 x.obj, .int .i64 x.a, .int .i64 x.b] 70)) ((w5.alloc (.cells #[.int .i64 x.th, .int .u8 (x.op : Int), .int .i64 x.obj, .int .i64 x.a, .int .i64 x.b] 70)).alloc (.cells #[.int .i64 x.th, .int .u8 (x.op : Int), .int .i64 x.obj, .int .i64 x.a, .int .i64 x.b] 70)) := (Below.refl _ _).alloc (Nat.le_refl _) _
                    have hx7 : ((w5.alloc (.cells #[.int .i64 x.th, .int .u8 (x.op : Int), .int .i64 x.obj, .int .i64 x.a, .int .i64 x.b] 70)).alloc (.cells #[.int .i64 x.th, .int .u8 (x.op : Int), .int .i64 x.obj, .int .i64 x.a, .int .i64 x.b] 70)).heap[w5.heap.size + 1]? = some (.cells #[.int .i64 x.th, .int .u8 (x.op : Int), .int .i64 x.obj, .int .i64 x.a, .int .i64 x.b] 70 (0, 0)) := by
                      have := heap_alloc_new (w5.alloc (.cells #[.int .i64 x.th, .int .u8 (x.op : Int), .int .i64 x.obj, .int .i64 x.a, .int .i64 x.b] 70)) (.cells #[.int .i64 x.th, .int .u8 (x.op : Int), .int .i64 x.obj, .int .i64 x.a, .int .i64 x.b] 70)
                      rwa [hz6] at this
                    have hz5 := hB5.size
                    have hz4 : h16 = w4.heap.size := hh16.out
                    obtain ⟨v', w8, hr, A3, c3, rfl, hO8, hA8⟩ := oe_append ((hO5.below hb6).below hb7) (by have := hb7.size; have := (Array.getElem?_eq_some_iff.1 hab5).1; omega) 71 x hx7 (by rw [HACC.out]; omega)
                    have hO7 := (hO5.below hb6).below hb7
                    have hfar : ∀ b, b < h16 + 1 → ¬ ((Value.slice A2 j c2).ownBlock = some b) := fun b hb e => by have := (hO7.type e).choose_spec.2; omega
                    have hab7 := (hb7.block _ (by have := (Array.getElem?_eq_some_iff.1 hab5).1; omega)).trans ((hb6.block _ (Array.getElem?_eq_some_iff.1 hab5).1).trans hab5)
                    have hab8 := (hA8.block h16 (Array.getElem?_eq_some_iff.1 hab7).1 (hfar _ (Nat.lt_succ_self _))).trans hab7
                    have hbx7 := (hb7.block _ (by omega)).trans hx5
                    have hbx8 := (hA8.block w5.heap.size (Array.getElem?_eq_some_iff.1 hbx7).1 (fun e => by
                      obtain ⟨cs, hcs⟩ := hO5.type e
                      have := (Array.getElem?_eq_some_iff.1 hcs.1).1
                      omega)).trans hbx7
                    obtain ⟨y0, y1, y2, y3, y4⟩ := cells5 hbx8
                    obtain ⟨f0, f1, f2, f3, f4⟩ := frees5 hab8
                    obtain ⟨z0, z1, z2, z3, z4⟩ := cells5 hab8
                    obtain ⟨hs9, hA9⟩ := set5 hab8 (.int .i64 x.th) (.int .u8 (x.op : Int)) (.int .i64 x.obj) (.int .i64 x.a) (.int .i64 x.b)
                    have hO9 := hO8.away hA9 fun b hb e => by have := (hO8.type hb).choose_spec.2; omega
                    have hB7 := (hB5.trans (hb6.mono hz5)).trans (hb7.mono (Nat.le_trans hz5 hb6.size))
                    have hB8 := hB7.trans (hA8.below (B := w4.heap.size) hB7.size fun b e => by have := (hO7.type e).choose_spec.2; omega)
                    have HB9 := Lib.hid (hB8.trans (hA9.below (B := w4.heap.size) hB8.size fun b hb => by omega))
                    have HO9 := Lib.hid hO9
                    have HS9 := Lib.hid hs9
                    have HR9 : Hid (readEvs N Ev.zero body j0 = (readEvs (N - (j + 1)) x body k').map fun r => ((acc ++ [x]) ++ r.1, r.2)) := by
                      show _ = _
                      rw [hR'.out]
                      cases readEvs (N - (j + 1)) x body k' <;> simp
                    clear hz4 hb7 hz5 hO8 hA8 hO7 hfar hab7 hab8 hbx7 hbx8 hs9 hA9 hO9 hB7 hB8 hR' hO5 hb6 hab5 hx7 hx5 hb5 hB5 HAB
                    go_wp2_with (at_builtin; refine wpList_run _ rfl (.tmp 103) (.tmp 105) 71 rfl (R := fun v' w' => v' = .slice A3 (j + 1) c3 ∧ w' = w8) ⟨_, _, hr, rfl, rfl⟩ ?_; rintro v' w' ⟨rfl, rfl⟩)
                    go_roundw
                    case rel => exact ⟨j + 1, k', acc ++ [x], x, by go_num, by omega, rfl, hk', by simp [HACC.out], HO9.out, HR9, HS9.out, HB9.out⟩
                    case measure => simp [intOf]; omega
                  · have hdf : ((f : Int) != 0) = true := by simp; omega
                    have hfin : evsOf body = none := by
                      rw [HE.out, hR'.out, if_neg hf]
                      rfl
                    have HFI : Hid (rdFrom l nx a 0 = ([], 0, 10)) := by show _ = _; rw [HRR.out, hfin]
                    have HBf := Lib.hid ((HB4.out.trans (hB5.mono HB4.out.size)).trans (hb6.mono (Nat.le_trans HB4.out.size hB5.size)))
                    clear hR' HE hfin HGL hab5 hO5 hB5 hb6
                    go_wp2_with fail
                    go_ret3
                    exact ⟨by rw [HFI.out]; exact readSays_none, HBf.out⟩
                · obtain rfl : j = N := by omega
                  have hd : decide ((j : Int) < (j : Int)) = false := by simp
                  have hev : evsOf body = if k = body.length then some acc else none := by
                    rw [HE.out, hR.out, Nat.sub_self]
                    simp [readEvs]
                  rw [HLA.out] at hev
                  have HV := Lib.hid hev
                  have hz4 : h16 = w4.heap.size := hh16.out
                  have hO' := hO.mono (base' := w.heap.size) (by have := HB4.out.size; omega)
                  have HBf := Lib.hid (HB4.out.trans (hB.mono HB4.out.size))
                  have HO := Lib.hid hO'
                  have hS := HS.out
                  have wz1 : wrap64 ((nx : Int) + ((a : Int) + 4)) = (nx : Int) + ((a : Int) + 4) := by unfold wrap64; omega
                  clear hz4 hev hR hab HE hO hO' hB hS
                  by_cases hkn : k = a
                  · have hd2 : decide ((k : Int) < (a : Int)) = false := decide_eq_false (by omega)
                    have hfin : rdFrom l nx a 0 = (acc, nx + a + 4, 0) := by rw [HRR.out, HV.out, if_pos hkn]
                    have HFI := Lib.hid hfin
                    clear hfin HV HRR
                    go_wp2_with fail
                    refine bodyPost_ret (v := .tuple #[.slice A2 j c2, .int .i64 ((nx : Int) + ((a : Int) + 4)), .int .i64 0]) (by simp [results, Try.results47, go_sem, wz1]) rfl ⟨?_, HBf.out⟩
                    rw [HFI.out]
                    exact ⟨_, by simp [Int.add_assoc], HO.out⟩
                  · have hd2 : decide ((k : Int) < (a : Int)) = true := decide_eq_true (by omega)
                    have hfin : rdFrom l nx a 0 = ([], 0, 10) := by rw [HRR.out, HV.out, if_neg hkn]
                    have HFI := Lib.hid hfin
                    clear hfin HV HRR
                    go_wp2_with fail
                    go_ret3
                    exact ⟨by rw [HFI.out]; exact readSays_none, HBf.out⟩
  · have d1 : ((f : Int) != 0) = true := by simp; omega
    have hr : rdFrom l nx a f = ([], 0, f) := by unfold rdFrom; rw [if_pos hf]
    rw [hr]
    clear h hr hf
    go_enter Try.func47, Try.ntmps47
    go_wp2_with fail
    refine HU.out.mono ?_
    rintro e w' ⟨rfl, hb1⟩
    go_wp2_with fail
    go_ret3
    exact ⟨readSays_none, hb1⟩
theorem refRead_any (A : Option Addr) (n c k : Nat) (l : List UInt8) (w : World) (h : IsB w A n c l) (hn : n ≤ 1000000) (hk : k ≤ n) :
    Calls Try.prog 47 #[.slice A n c, .int .i64 (k : Int)] w fun e w' => ReadSays (rdFrame l k) w.heap.size e w' ∧ Below w.heap.size w w' := by
  have hU := refGetUint_any A n c k l w h (by omega) hk
  have hle := getU_le (l.drop k)
  rw [List.length_drop, h.len] at hle
  have hnx : nextU k (getU (l.drop k)) ≤ n := by
    unfold nextU
    split
    · rename_i h0
      have := hle h0
      omega
    · omega
  have := refRead_from A n c k l _ _ _ w h hn (getU_lt (l.drop k)) hnx hU
  rw [rdFrame_from]
  by_cases h0 : (getU (l.drop k)).2.2 = 0
  · unfold nextU at this
    rw [if_pos h0] at this
    exact this
  · rw [rdFrom_err l (k + (getU (l.drop k)).2.1) (nextU k (getU (l.drop k))) _ h0]
    exact this
theorem refRead_out (A : Option Addr) (n c : Nat) (k : Int) (l : List UInt8) (w : World) (h : IsB w A n c l) (hn : n ≤ 1000000) (hk : k < 0 ∨ (n : Int) < k) :
    Calls Try.prog 47 #[.slice A n c, .int .i64 k] w fun e w' => ReadSays ([], 0, 2) w.heap.size e w' ∧ Below w.heap.size w w' := by
  have := refRead_from A n c k l 0 0 2 w h hn (by decide) (by omega) (by simpa [ansU, nextU] using refGetUint_out A n c k w hk)
  exact this
end Go.Proofs.Ytebpdlggkncliaa
