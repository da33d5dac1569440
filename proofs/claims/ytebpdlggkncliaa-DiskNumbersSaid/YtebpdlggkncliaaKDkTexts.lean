/-
  SameTexts, SameBytes; reads.
-/
import Derived.Test.YtebpdlggkncliaaK4
import Derived.Test.YtebpdlggkncliaaK1
import Derived.Lib.UnsafeStr
set_option linter.unusedVariables false
set_option linter.unusedSimpArgs false
namespace Go.Proofs.Ytebpdlggkncliaa
open Go.RowKit Go.Maps

/-- a slice of strings holds these -/
structure IsN (w : World) (A : Option Addr) (n c : Nat) (l : List Nm) : Prop where
  len : l.length = n
  cap : n ≤ c
  src : l = [] ∨ ∃ b o, A = some ⟨b, o, none⟩ ∧ ∀ j x, l[j]? = some x → w.cell? ⟨b, o + j, none⟩ = some (.string ⟨x.toArray⟩)
theorem IsN.below {w w' : World} {A : Option Addr} {n c : Nat} {l : List Nm} (h : IsN w A n c l) (hb : Below w.heap.size w w') : IsN w' A n c l := by
  refine ⟨h.len, h.cap, ?_⟩
  rcases h.src with h0 | ⟨b, o, hA, hc⟩
  · exact .inl h0
  · exact .inr ⟨b, o, hA, fun j z hj => cell_below hb _ _ (hc j z hj)⟩
theorem Names.isN {w : World} {base : Nat} {A : Option Addr} {n c : Nat} {l : List Nm} (h : Names w base (.slice A n c) l) : IsN w A n c l := by
  have hl := h.1
  rw [List.length_map, Nat.mul_one] at hl
  rcases h.2 with ⟨hv, hn⟩ | ⟨g, cap, cur, hv, hbg, hg, hnc, hcm, hcs, htake⟩
  · simp only [Value.slice.injEq] at hv
    obtain ⟨rfl, rfl, rfl⟩ := hv
    have : l = [] := List.eq_nil_of_length_eq_zero hn
    exact ⟨hn, Nat.le_refl _, .inl this⟩
  · simp only [Value.slice.injEq] at hv
    obtain ⟨rfl, rfl, rfl⟩ := hv
    refine ⟨rfl, hnc, .inr ⟨g, 0, rfl, fun j x hj => ?_⟩⟩
    have hx := World.ownsRow.cells (g := g) h rfl j (Go.Proofs.encStr x) (by rw [List.getElem?_map, hj]; rfl)
    simpa [Addr.add_lit, Go.Proofs.encStr] using hx
theorem IsN.at_ {w : World} {A : Option Addr} {n c : Nat} {l : List Nm} (h : IsN w A n c l) {j : Nat} (hj : j < n) : ∃ b o x, A = some ⟨b, o, none⟩ ∧ l[j]? = some x ∧ w.cell? ⟨b, o + j, none⟩ = some (.string ⟨x.toArray⟩) := by
  have hl := h.len
  have hx : l[j]? = some (l[j]'(by omega)) := List.getElem?_eq_getElem (by omega)
  rcases h.src with h0 | ⟨b, o, hA, hc⟩
  · rw [h0] at hl; simp at hl; omega
  · exact ⟨b, o, _, hA, hx, hc j _ hx⟩
theorem strs_new (w : World) (l : List Nm) (t : TypeId) : IsN (w.alloc (.cells (l.map fun x => Value.string ⟨x.toArray⟩).toArray t)) (some ⟨w.heap.size, 0, none⟩) l.length l.length l := by
  refine ⟨rfl, Nat.le_refl _, .inr ⟨_, _, rfl, fun j z hj => ?_⟩⟩
  rw [cell_of_row _ _ _ _ _ _ (heap_alloc_new w _)]
  simp [hj]

set_option maxRecDepth 100000 in
set_option maxHeartbeats 1000000 in
theorem sametexts_any {w : World} {A : Option Addr} {n c : Nat} {l : List Nm} {B : Option Addr} {m d : Nat} {k : List Nm} (h1 : IsN w A n c l) (h2 : IsN w B m d k) (hn : n ≤ maxLen) (hm : m ≤ maxLen) :
    Calls Try.prog 20 #[.slice A n c, .slice B m d] w fun e w' => e = .returned (.bool (decide (l = k))) ∧ Below w.heap.size w w' := by
  unfold maxLen at hn hm
  have hl1 := h1.len
  have hl2 := h2.len
  have hc1 := h1.cap
  have hc2 := h2.cap
  have HL1 := Lib.hid hl1
  have HL2 := Lib.hid hl2
  clear hl1 hl2
  go_enter Try.func20, Try.ntmps20
  go_wp2_with fail
  go_loopw [5] (fun q wr => ∃ i : Nat, q = .int .i64 (i : Int) ∧ i ≤ n ∧ i ≤ m ∧ Hid (l.take i = k.take i) ∧ IsN wr A n c l ∧ IsN wr B m d k ∧ Below w.heap.size w wr) (fun q _ => (n + m) - (intOf q).toNat)
  case atStart => exact ⟨0, rfl, by omega, by omega, by show _ = _; simp, h1, h2, Below.refl _ _⟩
  case round =>
    obtain ⟨i, rfl, hin, him, ht, h1, h2, hB⟩ := hrel
    by_cases a1 : i < n
    · by_cases a2 : i < m
      · obtain ⟨b, o, x, rfl, hx, x0⟩ := h1.at_ a1
        obtain ⟨b', o', y, rfl, hy, y0⟩ := h2.at_ a2
        obtain ⟨sx, hsx⟩ : ∃ s : ByteArray, s = ⟨x.toArray⟩ := ⟨_, rfl⟩
        obtain ⟨sy, hsy⟩ : ∃ s : ByteArray, s = ⟨y.toArray⟩ := ⟨_, rfl⟩
        have hxy := str_same2 hsx hsy
        rw [← hsx] at x0
        rw [← hsy] at y0
        have HX := Lib.hid hx
        have HY := Lib.hid hy
        clear hsx hsy hx hy
        by_cases e : x = y
        · rw [decide_eq_true e] at hxy
          have HE := Lib.hid e
          clear e
          go_wp2_with fail
          go_quiet (fail)
          go_wp2_with fail
          go_roundw
          case rel => exact ⟨i + 1, by go_num, by omega, by omega, by show _ = _; rw [take_snoc' HX.out, take_snoc' HY.out, ht.out, HE.out], h1.below (below_drewN' (Below.refl _ _) _), h2.below (below_drewN' (Below.refl _ _) _), below_drewN' hB _⟩
          case measure => simp [intOf]; omega
        · rw [decide_eq_false e] at hxy
          have HF : Hid (decide (l = k) = false) := by
            show _ = _
            refine decide_eq_false fun hlk => e ?_
            have h3 := HX.out
            rw [hlk, HY.out] at h3
            exact (Option.some.inj h3).symm
          clear e
          go_wp2_with fail
          go_quiet (fail)
          go_wp2_with fail
          go_ret
          exact ⟨ret_bool HF.out.symm, below_drewN' hB _⟩
      · have HF : Hid (decide (l = k) = false) := by
          show _ = _
          refine decide_eq_false fun hlk => ?_
          have h3 := HL1.out
          rw [hlk, HL2.out] at h3
          omega
        have e1 : decide ((i : Int) < (n : Int)) = true := decide_eq_true (by omega)
        have e2 : decide ((i : Int) < (m : Int)) = false := by simp; omega
        have g1 : decide ((n : Int) ≤ (i : Int)) = false := by simp; omega
        have g2 : decide ((m : Int) ≤ (i : Int)) = true := by simp; omega
        clear h1 h2
        go_wp2_with fail
        go_quiet (fail)
        go_wp2_with fail
        go_ret
        exact ⟨ret_bool HF.out.symm, below_drewN' hB _⟩
    · by_cases a2 : i < m
      · have HF : Hid (decide (l = k) = false) := by
          show _ = _
          refine decide_eq_false fun hlk => ?_
          have h3 := HL1.out
          rw [hlk, HL2.out] at h3
          omega
        have e1 : decide ((i : Int) < (n : Int)) = false := by simp; omega
        have e2 : decide ((i : Int) < (m : Int)) = true := decide_eq_true (by omega)
        have g1 : n ≤ i := by omega
        clear h1 h2 a1
        go_wp2_with fail
        go_quiet (fail)
        go_wp2_with fail
        go_ret
        exact ⟨ret_bool HF.out.symm, below_drewN' hB _⟩
      · have e1 : decide ((i : Int) < (n : Int)) = false := by simp; omega
        have e2 : decide ((i : Int) < (m : Int)) = false := by simp; omega
        have HT : Hid (decide (l = k) = true) := by
          show _ = _
          refine decide_eq_true ?_
          have h3 := ht.out
          rwa [List.take_of_length_le (by rw [HL1.out]; omega), List.take_of_length_le (by rw [HL2.out]; omega)] at h3
        clear h1 h2
        go_wp2_with fail
        go_ret
        exact ⟨ret_bool HT.out.symm, hB⟩

set_option maxRecDepth 100000 in
set_option maxHeartbeats 1000000 in
theorem reads_true {w0 w : World} {a : Nat} {s : St} (h : Sess w0 w a s) (nm want : ByteArray) (hnm : nm.size ≤ maxLen) (hd : s.down = false) {L : List UInt8} (hw : want = ⟨L.toArray⟩) {k : Nat} (hg : aget nm.data.toList s.fs = some (L, k)) :
    Calls Try.prog 11 #[.pointer (some ⟨a, 0, none⟩), .string nm, .string want] w fun e w' => e = .returned (.bool true) ∧ Sess w0 w' a s := by
  have hr : s.read nm.data.toList = (L, 0) := by unfold St.read; rw [if_neg (by rw [hd]; simp), hg]
  have hsz : ((aget nm.data.toList s.fs).getD ([], 0)).1.length = want.size := by rw [hg, hw]; rfl
  have HR := Lib.hid hr
  have HSZ := Lib.hid hsz
  have HW := Lib.hid hw
  clear hr hsz hw hd hg
  go_enter Try.func11, Try.ntmps11
  go_wp2_with fail
  refine (s_read h nm hnm HR.out).mono ?_
  rintro e w1 ⟨A, n, c, rfl, hI, _, h1⟩
  have hcv := conv_str w1 hI HW.out
  have hss : (want.toList == want.toList) = true := by simp
  clear hI
  go_wp2_with fail
  refine (s_size h1 nm hnm HSZ.out).mono ?_
  rintro e w2 ⟨rfl, rfl⟩
  go_wp2_with fail
  go_ret
  exact ⟨rfl, h1⟩
end Go.Proofs.Ytebpdlggkncliaa
