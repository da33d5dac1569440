/-
  EventRow: frames one behind the other are read one by one; cut anywhere, those that are whole are.
-/
import Derived.Test.YtinakeabbgphlaaEvRowMath
set_option linter.unusedVariables false
set_option linter.unusedSimpArgs false
namespace Go.Proofs.Ytinakeabbgphlaa
open Go.RowKit
open Go.Lib (byteCells byteCells_length byteCells_append uvarint)

theorem sl_same {r : Raw} {A : Option Addr} {n c : Nat} (h : r.sl = .slice A n c) : n = r.c.1.length := by
  unfold Raw.sl at h
  simp at h
  exact h.2.1.symm
theorem cntF_most : ∀ fs : List (List Ev), cntF fs ≤ fs.length
  | [] => Nat.le_refl _
  | f :: r => by
    have := cntF_most r
    show (if f.length = 0 then 0 else 1) + cntF r ≤ r.length + 1
    split <;> omega
theorem sl_isB {w : World} {r : Raw} {A : Option Addr} {n c : Nat} (h : FRow w r) (hA : r.sl = .slice A n c) : IsB w A n c r.c.1 := by
  unfold Raw.sl at hA
  simp at hA
  obtain ⟨h1, h2, h3⟩ := hA
  rw [← h1, ← h2, ← h3]
  exact h.isB
theorem cut_read {w : World} {A : Option Addr} {K c a N : Nat} {T post : List UInt8} {g : List Ev} (hIT : IsB w A K c (T.take K)) (hd : T.drop a = frameOf g ++ post) (hg : Evs g) (hK : K ≤ T.length) (hn : K ≤ 1000000) (hN : (frameOf g).length = N) :
    ∃ (nx f : Nat), Calls Try.prog 19 #[.slice A K c, .int .i64 (a : Int)] w (fun e w' => (∃ v, e = .returned (.tuple #[v, .int .i64 (nx : Int), .int .i64 (f : Int)])) ∧ Below w.heap.size w w') ∧ Hid (a ≤ K → (f = 0 ↔ a + N ≤ K)) := by
  by_cases haK : a ≤ K
  · have h1 := row_cut hd hg hK haK
    rw [hN] at h1
    have h2 := Read_any A K c a _ w hIT hn haK
    generalize rdFrame (T.take K) a = r at h1 h2
    refine ⟨r.2.1, r.2.2, ?_, fun _ => h1⟩
    refine h2.mono ?_
    rintro e w' ⟨⟨v, rfl, _⟩, hb⟩
    exact ⟨⟨v, rfl⟩, hb⟩
  · refine ⟨0, 2, ?_, fun h => absurd h haK⟩
    refine (Read_out A K c (a : Int) _ w hIT hn (.inr (by omega))).mono ?_
    rintro e w' ⟨⟨v, rfl, _⟩, hb⟩
    exact ⟨⟨v, rfl⟩, hb⟩
theorem pick_one (x : Int) (n : Nat) (w : World) (hn : n ≤ 1000000) (hx : In64 x) :
    Calls Try.prog 28 #[.int .i64 x, .int .i64 ((n : Int) + 1)] w fun e w' => e = .returned (.int .i64 (pickOf x (n + 1) : Int)) ∧ w = w' := by
  have := pick_any x (n + 1) w (by omega) hx
  rwa [show ((n + 1 : Nat) : Int) = (n : Int) + 1 by omega] at this

end Go.Proofs.Ytinakeabbgphlaa
