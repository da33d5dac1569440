/-
  Appends to bytes in memory of the call's own, whose spare places may be written.
-/
import Derived.Test.YtinakeabbgphlaaEvSame
import Derived.ArgAppend
set_option linter.unusedVariables false
namespace Go.Proofs.Ytinakeabbgphlaa
open Go.RowKit
open Go.Lib (byteCells byteCells_length byteCells_append uvarint)

theorem below_setCells (B : Nat) : ∀ (vs : List Value) (o : Nat) (w0 w : World) (b : Nat), Below B w0 w → B ≤ b → Below B w0 (w.setCells b o vs)
  | [], _, _, _, _, h, _ => h
  | v :: vs, o, w0, w, b, h, hb => below_setCells B vs (o + 1) w0 _ b (h.setCell (p := ⟨b, o, none⟩) hb v) hb
theorem Own.spare {w : World} {base : Nat} {v : Value} {l : List UInt8} (h : Own w base 5 v l) : ∃ A c, v = .slice A l.length c ∧ Spare w base A l.length c l := by
  obtain ⟨A, c, rfl, hI, hc⟩ := own_is h
  refine ⟨A, c, rfl, hI, hc, ?_⟩
  unfold Own at h
  rcases h.2 with ⟨hv, hn⟩ | ⟨g, cap, cur, hv, hb, hg, hnc, _, hcs, _⟩
  · simp only [Value.slice.injEq] at hv
    exact .inl ⟨hv.1, hv.2.2⟩
  · simp only [Value.slice.injEq] at hv
    obtain ⟨rfl, _, rfl⟩ := hv
    refine .inr ⟨g, rfl, hb, (Array.getElem?_eq_some_iff.1 hg).1, fun j hj hjc => ⟨?_, ?_⟩⟩
    · rw [cell_of_row _ _ _ _ _ _ hg, Array.getElem?_eq_getElem (by omega)]
      rfl
    · simp [World.frozen?, hg]
theorem Spare.below {w w' : World} {base : Nat} {A : Option Addr} {n c : Nat} {l : List UInt8} (h : Spare w base A n c l) (hb : Below w.heap.size w w') : Spare w' base A n c l := by
  refine ⟨h.is_.below hb, h.most, ?_⟩
  rcases h.at_ with h0 | ⟨g, hA, h1, h2, h3⟩
  · exact .inl h0
  · refine .inr ⟨g, hA, h1, Nat.lt_of_lt_of_le h2 hb.size, fun j hj hjc => ?_⟩
    rw [World.cell?_of_block (a := ⟨g, j, none⟩) (hb.block g h2), World.frozen?_of_block (a := ⟨g, j, none⟩) (hb.block g h2)]
    exact h3 j hj hjc
set_option maxHeartbeats 1000000 in
theorem spare_append {w : World} {base : Nat} {A : Option Addr} {n c : Nat} {l : List UInt8} (h : Spare w base A n c l) (hb : base ≤ w.heap.size) {B : Option Addr} {m d : Nat} {news : List UInt8} (hB : IsB w B m d news) (hsz : n + m ≤ 1000000) :
    ∃ A' c' w', (Builtin.append_ #[27, 27] 27 #[.slice A n c, .slice B m d]).run Try.prog w = .ok (.slice A' (n + m) c') w' ∧ Spare w' base A' (n + m) c' (l ++ news) ∧ Below base w w' := by
  obtain ⟨i0, h2, h3, h4, h5⟩ := info_parts infoU8
  have hl := h.is_.len
  have hbl := hB.len
  have ecs : byteCells l ++ byteCells news = byteCells (l ++ news) := (byteCells_append _ _).symm
  have fin : ∀ v' w', (Builtin.append_ #[27, 27] 27 #[.slice A n c, .slice B m d]).run Try.prog w = .ok v' w' → w'.ownsRow w.heap.size 5 1 v' (n + m) (byteCells l ++ byteCells news) → w.grownBy w' none →
      ∃ A' c' w', (Builtin.append_ #[27, 27] 27 #[.slice A n c, .slice B m d]).run Try.prog w = .ok (.slice A' (n + m) c') w' ∧ Spare w' base A' (n + m) c' (l ++ news) ∧ Below base w w' := by
    intro v' w' hr ho hg
    have hnm : n + m = (l ++ news).length := by rw [List.length_append, hl, hbl]
    rw [ecs, hnm] at ho
    have ho' : Own w' w.heap.size 5 v' (l ++ news) := ho
    obtain ⟨A', c', rfl, hS⟩ := (ho'.mono hb).spare
    rw [← hnm] at hS hr
    exact ⟨A', c', w', hr, hS, (Below.refl base w).grown hg hb fun k hk => by cases hk⟩
  cases B with
  | none =>
    obtain rfl : d = 0 := hB.none_ rfl
    have hcap := hB.cap
    obtain rfl : m = 0 := by omega
    obtain rfl : news = [] := List.eq_nil_of_length_eq_zero hbl
    have hle := h.is_.cap
    have hr : (Builtin.append_ #[27, 27] 27 #[.slice A n c, .slice none 0 0]).run Try.prog w = .ok (.slice A n c) w := by
      cases A <;> simp [Builtin.append_, run_underlying Try.underlying27, sizeOf, typeInfo, h2, Builtin.lenOf, Builtin.firstCells, hle, storeCells]
    exact ⟨A, c, w, hr, by rw [List.append_nil]; exact h, Below.refl _ _⟩
  | some ad =>
    have hnews := hB.src.cells ad rfl
    rcases h.at_ with ⟨rfl, rfl⟩ | ⟨g, rfl, hg1, hg2, hg3⟩
    · have hcap := h.is_.cap
      obtain rfl : n = 0 := by omega
      obtain rfl : l = [] := List.eq_nil_of_length_eq_zero hl
      obtain ⟨v', w', hr, r1, r2, _⟩ := run_append_own (P := Try.prog) w w.heap.size 27 27 5 i0 (.int .u8 0) 1 1 Try.underlying27 h2 h3 h4 h5 rfl (by decide) (.slice none 0 0) 0 [] (World.ownsRow_nil w _ _ 1) ad m d (byteCells news)
        (by rw [byteCells_length, hbl, Nat.mul_one]) hnews (byteCells_one _) (by unfold maxLen; omega) (by omega) (Nat.le_refl _)
      exact fin v' w' hr (by simpa [byteCells] using r1) r2
    · by_cases hroom : n + m ≤ c
      · have hs1 : i0.size = 1 := h4
        have hr := run_append_room_cells (P := Try.prog) w 27 27 5 i0 Try.underlying27 h2 g 0 n c ad m d (byteCells news) (by rw [byteCells_length, hbl, hs1, Nat.mul_one]) hnews (byteCells_one _) hroom
          (fun j hj => by rw [byteCells_length, hbl] at hj; rw [hs1, Nat.mul_one, Nat.zero_add]; exact (hg3 (n + j) (by omega) (by omega)).1)
          (fun j hj => by rw [byteCells_length, hbl] at hj; rw [hs1, Nat.mul_one, Nat.zero_add]; exact (hg3 (n + j) (by omega) (by omega)).2)
        rw [hs1, Nat.mul_one, Nat.zero_add] at hr
        refine ⟨_, c, _, hr, ⟨⟨by rw [List.length_append, hl, hbl], hroom, (fun e => by cases e), .inr ⟨g, 0, rfl, fun j u hj => ?_⟩⟩, h.most, .inr ⟨g, rfl, hg1, ?_, fun j hj hjc => ⟨?_, ?_⟩⟩⟩, below_setCells base (byteCells news) n w w g (Below.refl _ _) hg1⟩
        · rw [Nat.zero_add]
          by_cases hjn : j < n
          · rw [World.cell?_setCells_out g _ _ _ _ (fun _ _ => .inl hjn)]
            rw [List.getElem?_append_left (by omega)] at hj
            rcases h.is_.src with h0 | ⟨b', o', hA, hc⟩
            · rw [h0] at hj; simp at hj
            · simp only [Option.some.injEq, Addr.mk.injEq] at hA
              obtain ⟨rfl, rfl, _⟩ := hA
              have := hc j u hj
              rwa [Nat.zero_add] at this
          · rw [List.getElem?_append_right (by omega), hl] at hj
            have hjm := (List.getElem?_eq_some_iff.1 hj).1
            have := World.cell?_setCells_in g (byteCells news) n w (fun q hq => by rw [byteCells_length, hbl] at hq; exact (hg3 (n + q) (by omega) (by omega)).1) (j - n) (by rw [byteCells_length]; exact hjm)
            rw [show n + (j - n) = j by omega] at this
            rw [this]
            have e := List.getElem?_eq_getElem (l := byteCells news) (i := j - n) (by rw [byteCells_length]; exact hjm)
            rw [← e, byteCells, List.getElem?_map, hj]
            rfl
        · have := (below_setCells base (byteCells news) n w w g (Below.refl _ _) hg1).size
          omega
        · rw [World.cell?_setCells_out g _ _ _ _ (fun _ _ => .inr (by rw [byteCells_length, hbl]; exact hj))]
          exact (hg3 j (by omega) hjc).1
        · rw [World.frozen?_setCells]
          exact (hg3 j (by omega) hjc).2
      · have holds : ∀ j u, (byteCells l)[j]? = some u → w.cell? ((⟨g, 0, none⟩ : Addr).add j) = some u := h.is_.src.cells _ rfl
        obtain ⟨v', w', hr, r1, r2⟩ := run_append_arg_grows (P := Try.prog) w 27 27 5 i0 (.int .u8 0) 1 1 Try.underlying27 h2 h3 h4 h5 rfl (by decide) ⟨g, 0, none⟩ n c (byteCells l) (by rw [byteCells_length, hl, Nat.mul_one]) holds ad m d (byteCells news)
          (by rw [byteCells_length, hbl, Nat.mul_one]) hnews (by omega) (by unfold maxLen; omega) (by omega)
        exact fin v' w' hr r1 r2
end Go.Proofs.Ytinakeabbgphlaa
