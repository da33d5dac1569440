/-
  Read: the events of the frame at a place.
-/
import Derived.Test.YtiockkphciadeaaEvReadB
set_option linter.unusedVariables false
set_option linter.unusedSimpArgs false
namespace Go.Proofs.Ytiockkphciadeaa
open Go.RowKit
open Go.Lib (byteCells byteCells_length byteCells_append uvarint)

/-- Read's answers behind the frame's number: a, the body's place nx, the number's error f -/
def rdFrom (l : List UInt8) (nx a f : Nat) : List Ev × Nat × Nat :=
  if f ≠ 0 then ([], 0, f) else if 262144 < a then ([], 0, 3) else if l.length < nx + a + 4 then ([], 0, 11)
  else if (l.drop (nx + a)).take 4 ≠ sumBytes (crc ((l.drop nx).take a)) then ([], 0, 12)
  else match evsOf ((l.drop nx).take a) with
    | none => ([], 0, 10)
    | some es => (es, nx + a + 4, 0)
theorem rdFrame_from (l : List UInt8) (k : Nat) : rdFrame l k = rdFrom l (k + (getU (l.drop k)).2.1) (getU (l.drop k)).1 (getU (l.drop k)).2.2 := rfl
theorem rdFrom_err (l : List UInt8) (nx nx' a : Nat) {f : Nat} (hf : f ≠ 0) : rdFrom l nx a f = rdFrom l nx' a f := by
  unfold rdFrom
  rw [if_pos hf, if_pos hf]
def ReadSays (r : List Ev × Nat × Nat) (base : Nat) (e : Ending) (w' : World) : Prop :=
  ∃ v, e = .returned (.tuple #[v, .int .i64 (r.2.1 : Int), .int .i64 (r.2.2 : Int)]) ∧ OwnE w' base v r.1
theorem readSays_none {w' : World} {base f : Nat} : ReadSays ([], 0, f) base (.returned (.tuple #[.slice none 0 0, .int .i64 0, .int .i64 (f : Int)])) w' :=
  ⟨_, rfl, OwnE.nil _ _⟩

set_option maxRecDepth 100000 in
set_option maxHeartbeats 1000000 in
theorem Read_from (A : Option Addr) (n c : Nat) (kk : Int) (l : List UInt8) (a nx f : Nat) (w : World) (h : IsB w A n c l) (hn : n ≤ 1000000) (ha : a < 18446744073709551616) (hnx : nx ≤ n)
    (hU : Calls Try.prog 79 #[.slice A n c, .int .i64 kk] w fun e' w' => e' = .returned (.tuple #[.int .u64 (a : Int), .int .i64 (nx : Int), .int .i64 (f : Int)]) ∧ w = w') :
    Calls Try.prog 32 #[.slice A n c, .int .i64 kk] w fun e w' => ReadSays (rdFrom l nx a f) w.heap.size e w' ∧ Below w.heap.size w w' := by
  have HU := Lib.hid hU
  have HL := Lib.hid h.len
  clear hU
  by_cases hf : f = 0
  · subst hf
    have d1 : (((0 : Nat) : Int) != 0) = false := by simp
    by_cases hbig : 262144 < a
    · have d2 : decide ((262144 : Int) < (a : Int)) = true := by simp; omega
      have hr : rdFrom l nx a 0 = ([], 0, 3) := by unfold rdFrom; rw [if_neg (by simp), if_pos hbig]
      rw [hr]
      clear h hr hbig
      go_enter Try.func32, Try.ntmps32
      go_wp2_with fail
      refine HU.out.mono ?_
      rintro e w' ⟨rfl, rfl⟩
      go_wp2_with fail
      go_ret3
      exact ⟨readSays_none, Below.refl _ _⟩
    · have d2 : decide ((262144 : Int) < (a : Int)) = false := by simp; omega
      have e1 : IntKind.i64.wrap (a : Int) = (a : Int) := by rw [IntKind.wrap_i64]; omega
      have wa1 : wrap64 ((nx : Int) + (a : Int)) = (nx : Int) + (a : Int) := by unfold wrap64; omega
      have wa2 : wrap64 ((nx : Int) + (a : Int) + 4) = (nx : Int) + (a : Int) + 4 := by unfold wrap64; omega
      by_cases hsh : n < nx + a + 4
      · have d3 : decide ((n : Int) < (nx : Int) + (a : Int) + 4) = true := by simp; omega
        have hr : rdFrom l nx a 0 = ([], 0, 11) := by unfold rdFrom; rw [if_neg (by simp), if_neg hbig, if_pos (by rw [HL.out]; omega)]
        rw [hr]
        clear h hr hsh
        go_enter Try.func32, Try.ntmps32
        go_wp2_with fail
        refine HU.out.mono ?_
        rintro e w' ⟨rfl, rfl⟩
        go_wp2_with fail
        go_ret3
        exact ⟨readSays_none, Below.refl _ _⟩
      · have d3 : decide ((n : Int) < (nx : Int) + (a : Int) + 4) = false := by simp; omega
        have hcut := h.cut (i := nx) (m := a + 4) (by omega)
        have hrun := run_cut w A n c nx (nx + a + 4) (by omega) (by have := h.cap; omega)
        rw [show nx + a + 4 - nx = a + 4 by omega] at hrun
        generalize (if c = nx then A else A.map (·.add nx)) = A' at hcut hrun
        generalize c - nx = c' at hcut hrun
        have hpush : (((nx + a + 4 : Nat)) : Int) = (nx : Int) + (a : Int) + 4 := by omega
        rw [hpush] at hrun
        have hsplit : (l.drop nx).take (a + 4) = (l.drop nx).take a ++ (l.drop (nx + a)).take 4 := by
          rw [List.take_add, List.drop_drop]
        have hlen4 : ((l.drop (nx + a)).take 4).length = 4 := by rw [List.length_take, List.length_drop, HL.out]; omega
        have hlena : ((l.drop nx).take a).length = a := by rw [List.length_take, List.length_drop, HL.out]; omega
        have hr : rdFrom l nx a 0 = if (l.drop (nx + a)).take 4 ≠ sumBytes (crc ((l.drop nx).take a)) then ([], 0, 12) else match evsOf ((l.drop nx).take a) with
            | none => ([], 0, 10)
            | some es => (es, nx + a + 4, 0) := by
          conv => lhs; unfold rdFrom; rw [if_neg (by simp), if_neg hbig, if_neg (by rw [HL.out]; omega)]
        rw [hsplit] at hcut
        generalize (l.drop nx).take a = body at hr hcut hlena
        generalize (l.drop (nx + a)).take 4 = tl at hr hcut hlen4
        have HR := Lib.hid hr
        have HLA := Lib.hid hlena
        have HA : Hid (a ≤ 262144) := by show _ ≤ _; omega
        have HUN := Lib.hid (unseal_any A' (a + 4) c' (body ++ tl) w hcut (by omega))
        clear h hr hsh hpush hsplit hcut hbig
        go_enter Try.func32, Try.ntmps32
        go_wp2_with fail
        refine HU.out.mono ?_
        rintro e w' ⟨rfl, rfl⟩
        go_wp2_with fail
        refine HUN.out.mono ?_
        rintro e w2 ⟨hO, hb2⟩
        clear HUN hrun
        rcases hO with ⟨body', v, heq, rfl, hown⟩ | ⟨hno, rfl⟩
        · have hbb : body' = body ∧ tl = sumBytes (crc body) := by
            unfold sealed at heq
            have hl4 := congrArg List.length heq
            rw [List.length_append, List.length_append, sumBytes_length, hlen4] at hl4
            have := List.append_inj heq (by omega)
            exact ⟨this.1.symm, by rw [this.2, this.1]⟩
          obtain ⟨rfl, htl⟩ := hbb
          obtain ⟨Ab, nb, cb, rfl, hIb⟩ := own_slice hown
          have hnb := hIb.len
          have hHR : Hid (rdFrom l nx a 0 = match evsOf body' with
            | none => ([], 0, 10)
            | some es => (es, nx + a + 4, 0)) := by
            show _ = _
            rw [HR.out, if_neg (by rw [htl]; simp)]
          have hHE := Lib.hid (events_any Ab nb cb body' w2 hIb (by rw [← hnb, HLA.out]; have := HA.out; omega))
          have hz2 := hb2.size
          clear heq hown hIb HR htl
          go_wp2_with fail
          refine hHE.out.mono ?_
          rintro e w3 ⟨hev, hb3⟩
          have hB3 := bstep0 hb2 hb3
          rcases hev with ⟨es, v, hes, rfl, hOE⟩ | ⟨hes, rfl⟩
          · rw [hes] at hHR
            clear hes hHE
            have hOE' := hOE.mono (base' := w.heap.size) hz2
            clear hOE
            go_wp2_with fail
            refine bodyPost_ret (v := .tuple #[v, .int .i64 ((nx : Int) + (a : Int) + 4), .int .i64 0]) (by simp [results, Try.results32, go_sem]) rfl ⟨?_, hB3⟩
            rw [hHR.out]
            exact ⟨v, by simp, hOE'⟩
          · rw [hes] at hHR
            clear hes hHE
            go_wp2_with fail
            go_ret3
            exact ⟨by rw [hHR.out]; exact readSays_none, hB3⟩
        · have hne : (body ++ tl).length < 4 ↔ False := by rw [List.length_append, hlen4]; simp
          have hx : (if (body ++ tl).length < 4 then (11 : Nat) else 12) = 12 := if_neg (by rw [List.length_append]; omega)
          have hHR : rdFrom l nx a 0 = ([], 0, 12) := by
            rw [HR.out, if_pos]
            intro htl
            exact hno body (by unfold sealed; rw [htl])
          have hHR' := Lib.hid hHR
          have hx' : (if (body ++ tl).length < 4 then (11 : Int) else 12) = 12 := if_neg (by rw [List.length_append]; omega)
          rw [hx']
          clear hne hno hHR HR hx hx'
          go_wp2_with fail
          go_ret3
          exact ⟨by rw [hHR'.out]; exact readSays_none, hb2⟩
  · have d1 : ((f : Int) != 0) = true := by simp; omega
    have hr : rdFrom l nx a f = ([], 0, f) := by unfold rdFrom; rw [if_pos hf]
    rw [hr]
    clear h hr hf
    go_enter Try.func32, Try.ntmps32
    go_wp2_with fail
    refine HU.out.mono ?_
    rintro e w' ⟨rfl, rfl⟩
    go_wp2_with fail
    go_ret3
    exact ⟨readSays_none, Below.refl _ _⟩
theorem Read_any (A : Option Addr) (n c k : Nat) (l : List UInt8) (w : World) (h : IsB w A n c l) (hn : n ≤ 1000000) (hk : k ≤ n) :
    Calls Try.prog 32 #[.slice A n c, .int .i64 (k : Int)] w fun e w' => ReadSays (rdFrame l k) w.heap.size e w' ∧ Below w.heap.size w w' := by
  have hU := getUint_any A n c k l w h (by omega) hk
  have hle := getU_le (l.drop k)
  rw [List.length_drop, h.len] at hle
  have hnx : nextU k (getU (l.drop k)) ≤ n := by
    unfold nextU
    split
    · rename_i h0
      have := hle h0
      omega
    · omega
  have := Read_from A n c k l _ _ _ w h hn (getU_lt (l.drop k)) hnx hU
  rw [rdFrame_from]
  by_cases h0 : (getU (l.drop k)).2.2 = 0
  · unfold nextU at this
    rw [if_pos h0] at this
    exact this
  · rw [rdFrom_err l (k + (getU (l.drop k)).2.1) (nextU k (getU (l.drop k))) _ h0]
    exact this
theorem Read_out (A : Option Addr) (n c : Nat) (k : Int) (l : List UInt8) (w : World) (h : IsB w A n c l) (hn : n ≤ 1000000) (hk : k < 0 ∨ (n : Int) < k) :
    Calls Try.prog 32 #[.slice A n c, .int .i64 k] w fun e w' => ReadSays ([], 0, 2) w.heap.size e w' ∧ Below w.heap.size w w' := by
  have := Read_from A n c k l 0 0 2 w h hn (by decide) (by omega) (by simpa [ansU, nextU] using getUint_out A n c k w hk)
  exact this
end Go.Proofs.Ytiockkphciadeaa
