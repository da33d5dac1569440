/-
  EventBack: what is put is got; what is framed is read, and what is read, framed again, is the same bytes.
-/
import Derived.Test.YtinakeabbgphlaaEvSpare
import Derived.Test.YtinakeabbgphlaaEvBackMath
import Derived.Test.YtinakeabbgphlaaEvTurned
set_option linter.unusedVariables false
set_option linter.unusedSimpArgs false
namespace Go.Proofs.Ytinakeabbgphlaa
open Go.RowKit
open Go.Lib (byteCells byteCells_length byteCells_append uvarint)

theorem Read_at0 {w : World} {A : Option Addr} {n c : Nat} {l : List UInt8} (h : IsB w A n c l) (hn : n ≤ 1000000) :
    Calls Try.prog 19 #[.slice A n c, .int .i64 0] w fun e w' => (∃ B m d, e = .returned (.tuple #[.slice B m d, .int .i64 ((rdFrame l 0).2.1 : Int), .int .i64 ((rdFrame l 0).2.2 : Int)]) ∧ OwnE w' w.heap.size (.slice B m d) (rdFrame l 0).1 ∧ m = (rdFrame l 0).1.length) ∧ Below w.heap.size w w' :=
  Read_lit h hn rfl
theorem IsB.take' {w : World} {A : Option Addr} {m c : Nat} {l : List UInt8} (h : IsB w A m c l) {n : Nat} (hn : n ≤ m) : IsB w A n c (l.take n) := by
  refine ⟨by rw [List.length_take, h.len]; omega, Nat.le_trans hn h.cap, h.none_, ?_⟩
  rcases h.src with h0 | ⟨b, o, hA, hc⟩
  · exact .inl (by rw [h0, List.take_nil])
  · refine .inr ⟨b, o, hA, fun j u hj => hc j u ?_⟩
    have hj' := (List.getElem?_eq_some_iff.1 hj).1
    rw [List.length_take] at hj'
    rwa [List.getElem?_take_of_lt (by omega)] at hj
theorem IsB.awayF {F : Nat → Prop} {w w' : World} {A : Option Addr} {n c : Nat} {l : List UInt8} (h : IsB w A n c l) (ha : Away F w w') (hf : ∀ ad, A = some ad → ¬ F ad.block) : IsB w' A n c l := by
  refine ⟨h.len, h.cap, h.none_, ?_⟩
  rcases h.src with h0 | ⟨b, o, hA, hc⟩
  · exact .inl h0
  · refine .inr ⟨b, o, hA, fun j u hj => ?_⟩
    have hx := hc j u hj
    exact (World.cell?_of_block (ha.block b (block_lt_of_cell hx) (hf _ hA))).trans hx
theorem own_at {w : World} {base : Nat} {v : Value} {l : List UInt8} (h : Own w base 5 v l) : ∃ A m c, v = .slice A m c ∧ IsB w A m c l ∧ ∀ ad, A = some ad → base ≤ ad.block := by
  obtain ⟨A, c, rfl, hS⟩ := h.spare
  refine ⟨A, _, c, rfl, hS.is_, fun ad hA => ?_⟩
  rcases hS.at_ with ⟨h0, _⟩ | ⟨g, hg, hb, _⟩
  · rw [h0] at hA; cases hA
  · rw [hg] at hA; cases hA; exact hb
theorem Read_frame {w : World} {A : Option Addr} {n c k N : Nat} {L pre post : List UInt8} {es : List Ev} (hI : IsB w A n c L) (hL : L = pre ++ (frameOf es ++ post)) (he : Evs es) (hn : n ≤ 1000000) (hk : pre.length = k) (hN : N = (frameOf es).length) :
    Calls Try.prog 19 #[.slice A n c, .int .i64 (k : Int)] w fun e w' => (∃ B q d, e = .returned (.tuple #[.slice B q d, .int .i64 ((k : Int) + (N : Int)), .int .i64 0]) ∧ OwnE w' w.heap.size (.slice B q d) es ∧ q = es.length) ∧ Below w.heap.size w w' := by
  subst hk
  have hd : L.drop pre.length = frameOf es ++ post := by rw [hL, List.drop_left]
  have hr := rdFrame_frame he hd
  have hle : pre.length ≤ n := by rw [← hI.len, hL, List.length_append]; omega
  refine (Read_any A n c pre.length L w hI hn hle).mono ?_
  rintro e w' ⟨⟨v, he', ho⟩, hb⟩
  rw [hr] at he' ho
  obtain ⟨B, q, d, rfl, _, hq, _⟩ := ho.is_
  refine ⟨⟨B, q, d, ?_, ho, hq⟩, hb⟩
  rw [he', hN]
  rfl
theorem sameev_not {w : World} {A : Option Addr} {n c : Nat} {l : List Ev} {B : Option Addr} {m d : Nat} {k : List Ev} (h1 : IsEv w A n c l) (h2 : IsEv w B m d k) (hn : n ≤ 1000000) (hm : m ≤ 1000000) (hne : l ≠ k) :
    Calls Try.prog 27 #[.slice A n c, .slice B m d] w fun e w' => e = .returned (.bool false) ∧ Below w.heap.size w w' := by
  have := sameev_any h1 h2 hn hm
  rwa [decide_eq_false hne] at this
theorem same_self {w : World} {A : Option Addr} {n c : Nat} {l : List UInt8} {B : Option Addr} {m d : Nat} {k : List UInt8} (h1 : IsB w A n c l) (h2 : IsB w B m d k) (e : k = l) :
    Calls Try.prog 16 #[.slice A n c, .slice B m d] w fun e w' => e = .returned (.bool true) ∧ w = w' := by
  subst e
  have := samebytes_any h1 h2
  rwa [decide_eq_true rfl] at this

end Go.Proofs.Ytinakeabbgphlaa
