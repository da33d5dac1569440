/-
  EventTurned: if up to four bytes of a frame's body, next to each other, are others, it is refused: ErrSum.
-/
import Derived.Test.YtinakeabbgphlaaEvAwake
import Derived.Test.YtinakeabbgphlaaEvTurnMath
set_option linter.unusedVariables false
set_option linter.unusedSimpArgs false
namespace Go.Proofs.Ytinakeabbgphlaa
open Go.RowKit
open Go.Lib (byteCells byteCells_length byteCells_append uvarint)

theorem u8_xor_bytes (x u : UInt8) : bits .xor .u8 (x.toNat : Int) (u.toNat : Int) = ((x ^^^ u).toNat : Int) := by
  have h1 := x.toNat_lt
  have h2 := u.toNat_lt
  rw [toNat_xor8]
  show IntKind.u8.wrap ((BitVec.ofInt 8 (x.toNat : Int) ^^^ BitVec.ofInt 8 (u.toNat : Int)).toNat : Int) = _
  rw [BitVec.toNat_xor, BitVec.ofInt_natCast, BitVec.ofInt_natCast, BitVec.toNat_ofNat, BitVec.toNat_ofNat, Nat.mod_eq_of_lt h1, Nat.mod_eq_of_lt h2, IntKind.wrap_u8']
  have := Nat.xor_lt_two_pow (n := 8) h1 h2
  omega
def chgOf (t : List UInt8) (i : Nat) : Bool := (t.take i).any (fun u => u != 0)
theorem chgOf_step {t : List UInt8} {i : Nat} {u : UInt8} (hu : t[i]? = some u) : chgOf t (i + 1) = (chgOf t i || (u != 0)) := by
  obtain ⟨hi, e⟩ := List.getElem?_eq_some_iff.1 hu
  unfold chgOf
  rw [List.take_succ_eq_append_getElem hi, List.any_append, e]
  simp
theorem chgOf_false {t : List UInt8} {i : Nat} (h : chgOf t i = false) : ∀ u ∈ t.take i, u = 0 := by
  intro u hu
  unfold chgOf at h
  rw [List.any_eq_false] at h
  have := h u hu
  simpa using this
theorem chgOf_true {t : List UInt8} {i : Nat} (h : chgOf t i = true) : ¬ ∀ u ∈ t.take i, u = 0 := by
  intro hall
  unfold chgOf at h
  rw [List.any_eq_true] at h
  obtain ⟨u, hu, hne⟩ := h
  rw [hall u hu] at hne
  simp at hne
theorem bne_byte (u : UInt8) : ((u.toNat : Int) != 0) = (u != 0) := by
  by_cases h : u = 0
  · subst h; rfl
  · have h1 : u.toNat ≠ 0 := fun e => h (UInt8.toNat_inj.1 e)
    rw [bne_iff_ne.2 (by omega), bne_iff_ne.2 h]

theorem turned_cell {wr : World} {g cg k m a i : Nat} {b t : List UInt8} (hMr : Mine wr g 5 cg (frameAs b (turned_ b a i t))) (hbu : (uvarint b.length).length = k + 1) (hbm : b.length = m) (ham : a + i < m) :
    ∃ x, (turned_ b a i t)[a + i]? = some x ∧ wr.cell? ⟨g, k + 1 + a + i, none⟩ = some (.int .u8 (x.toNat : Int)) := by
  have hlt : a + i < (turned_ b a i t).length := by rw [turned_length, hbm]; exact ham
  have hx : (turned_ b a i t)[a + i]? = some (turned_ b a i t)[a + i] := List.getElem?_eq_getElem hlt
  refine ⟨_, hx, ?_⟩
  have h2 := frameAs_get (b := b) (b' := turned_ b a i t) (k := a + i) hx
  rw [hbu, ← Nat.add_assoc] at h2
  exact Mine.cell hMr h2
theorem turned_put {wr : World} {g cg k m a i : Nat} {b t : List UInt8} {x u : UInt8} (hMr : Mine wr g 5 cg (frameAs b (turned_ b a i t))) (hbu : (uvarint b.length).length = k + 1) (hbm : b.length = m) (ham : a + i < m)
    (hx : (turned_ b a i t)[a + i]? = some x) (hu : t[i]? = some u) :
    Mine (wr.setCell ⟨g, k + 1 + a + i, none⟩ (.int .u8 (bits .xor .u8 (x.toNat : Int) (u.toNat : Int)))) g 5 cg (frameAs b (turned_ b a (i + 1) t)) := by
  have hp := hMr.put (k + 1 + a + i) (x ^^^ u) _ (u8_xor_bytes x u).symm
  have e := frameAs_set (b := b) (b' := turned_ b a i t) (a + i) (x ^^^ u) (by rw [turned_length, hbm]; exact ham)
  rw [hbu, ← Nat.add_assoc, turned_step hx hu] at e
  rw [e] at hp
  exact hp
theorem four_at {t : List UInt8} {u0 u1 u2 u3 : UInt8} (ht : t = [u0, u1, u2, u3]) (i : Nat) (x : UInt8) (hx : t[i]? = some x) :
    (#[Value.int .u8 (u0.toNat : Int), .int .u8 (u1.toNat : Int), .int .u8 (u2.toNat : Int), .int .u8 (u3.toNat : Int)] : Array Value)[i]? = some (Value.int .u8 (x.toNat : Int)) := by
  rw [ht] at hx
  match i, hx with
  | 0, hx => simp at hx; subst hx; rfl
  | 1, hx => simp at hx; subst hx; rfl
  | 2, hx => simp at hx; subst hx; rfl
  | 3, hx => simp at hx; subst hx; rfl

theorem sum_small {a i m : Nat} (h : a + i ≤ m) (hm : m ≤ 170000) : wrap64 ((a : Int) + (i : Int)) = (a : Int) + (i : Int) := by unfold wrap64; omega
theorem sameev_self {w : World} {A : Option Addr} {n c : Nat} {l : List Ev} {B : Option Addr} {m d : Nat} (h1 : IsEv w A n c l) (h2 : IsEv w B m d l) (hn : n ≤ 1000000) (hm : m ≤ 1000000) :
    Calls Try.prog 27 #[.slice A n c, .slice B m d] w fun e w' => e = .returned (.bool true) ∧ Below w.heap.size w w' := by
  have := sameev_any h1 h2 hn hm
  rwa [decide_eq_true rfl] at this
theorem turn_arith {k m a i : Nat} (hi : i < 4) (ham : a + i < m) (hm : m ≤ 170000) (hk : k + 1 ≤ 10) :
    decide ((i : Int) < 4) = true ∧ decide ((a : Int) + (i : Int) < (m : Int)) = true ∧ IntKind.i64.wrap ((k : Int) + 1 + (a : Int)) = (k : Int) + 1 + (a : Int) ∧ IntKind.i64.wrap ((k : Int) + 1 + (a : Int) + (i : Int)) = (k : Int) + 1 + (a : Int) + (i : Int) ∧
    0 ≤ (k : Int) + 1 + (a : Int) + (i : Int) ∧ (k : Int) + 1 + (a : Int) + (i : Int) < (k : Int) + 1 + (m : Int) + 4 ∧ ((k : Int) + 1 + (a : Int) + (i : Int)).toNat = k + 1 + a + i ∧ (i : Int) < 4 ∧ (0 : Int) ≤ (i : Int) :=
  ⟨decide_eq_true (by omega), decide_eq_true (by omega), IntWalk.i64_in _ (by omega), IntWalk.i64_in _ (by omega), by omega, by omega, by omega, by omega, by omega⟩

end Go.Proofs.Ytinakeabbgphlaa
