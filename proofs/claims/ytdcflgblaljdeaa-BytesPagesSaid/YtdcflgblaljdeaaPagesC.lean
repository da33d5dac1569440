/-
  BytesPages: the law's own walk.
-/
import Derived.Test.YtdcflgblaljdeaaPagesB
import Derived.Laws.AppendOwn
set_option linter.unusedSimpArgs false
namespace Go.Proofs.Ytdcflgblaljdeaa
open Go.RowKit
open Go.Lib (byteCells byteCells_length byteCells_append uvarint)
set_option linter.unusedVariables false

theorem infoEntry : (Try.prog.info? 89).map (fun i => (i.zero, i.size, i.bytes)) = some (some (.agg #[.int .u8 0, .int .u64 0, .slice none 0 0]), 3, 40) := by kernel_rfl

theorem addr_zero (A : Option Addr) (c : Nat) : (if c = 0 then A else A.map (·.add 0)) = A := by
  split
  · rfl
  · cases A <;> rfl
theorem run_toE (w : World) (A : Option Addr) (n c j : Nat) (hj : j ≤ c) :
    (Instr.slice 85 (.slice A n c) none (some (.int .i64 (j : Int))) none).run Try.prog w = .ok (.slice A j c) w := by
  obtain ⟨i0, hi0, hz0, hz1, hz2⟩ := info_parts infoEntry
  have ht : Try.prog.underlying 85 = some (.slice (Try.prog.elem 85)) := by simp [Program.elem, Try.underlying85]
  have he : Try.prog.elem 85 = 89 := by simp [Program.elem, Try.underlying85]
  rw [run_slice_h w 85 A n c ht .i64 (j : Int) (by omega) (by omega), he]
  have := addr_zero A c
  simp [sizeOf, typeInfo, hi0, hz1, Result.andThen, sliced]
  intro hc
  have := addr_zero A c
  rw [if_neg hc] at this
  exact this
theorem IsE.cutTo {w : World} {A : Option Addr} {n c : Nat} {es : List Ent} (h : IsE w A n c es) {k : Nat} (hk : k ≤ n) : IsE w A k c (es.take k) := by
  refine ⟨by rw [List.length_take, h.len]; omega, Nat.le_trans hk h.cap, h.none_, ?_⟩
  rcases h.src with rfl | ⟨b, o, hA, hc⟩
  · exact .inl (List.take_nil ..)
  · refine .inr ⟨b, o, hA, fun j x hj => hc j x ?_⟩
    have := List.getElem?_eq_some_iff.1 hj
    obtain ⟨hl, _⟩ := this
    rw [List.length_take] at hl
    rw [List.getElem?_take_of_lt (by omega)] at hj
    exact hj

/-- an entry, and where its string lies -/
structure SE where
  x : Ent
  B : Option Addr
  m : Nat
  d : Nat
def SE.cells (p : SE) : List Value := [.int .u8 (p.x.kind : Int), .int .u64 (p.x.num : Int), .slice p.B p.m p.d]
/-- a row of the call's own that holds entries; their strings lie in what was there when the call began (w0) -/
structure OwnE (w0 w : World) (v : Value) (xs : List SE) : Prop where
  row : w.ownsRow w0.heap.size 89 3 v xs.length (xs.flatMap SE.cells)
  strs : ∀ p ∈ xs, IsB w0 p.B p.m p.d p.x.str
theorem OwnE.nil (w0 w : World) : OwnE w0 w (.slice none 0 0) [] := ⟨World.ownsRow_nil w _ _ 3, fun _ h => by cases h⟩
theorem OwnE.below {w0 w w' : World} {v : Value} {xs : List SE} (h : OwnE w0 w v xs) (hb : Below w.heap.size w w') : OwnE w0 w' v xs := by
  refine ⟨⟨h.row.1, ?_⟩, h.strs⟩
  rcases h.row.2 with hn | ⟨g, cap, cur, rfl, hbg, hg, hr⟩
  · exact .inl hn
  · exact .inr ⟨g, cap, cur, rfl, hbg, (hb.block g (Array.getElem?_eq_some_iff.1 hg).1).trans hg, hr⟩
theorem OwnE.snoc {w0 w w' : World} {v v' : Value} {xs : List SE} {p : SE} (h : OwnE w0 w v xs) (hp : IsB w0 p.B p.m p.d p.x.str)
    (hr : w'.ownsRow w0.heap.size 89 3 v' (xs.length + 1) (xs.flatMap SE.cells ++ p.cells)) : OwnE w0 w' v' (xs ++ [p]) := by
  refine ⟨?_, fun q hq => ?_⟩
  · rw [List.length_append, List.flatMap_append]
    simpa using hr
  · rcases List.mem_append.1 hq with hq | hq
    · exact h.strs q hq
    · simp at hq; subst hq; exact hp
theorem OwnE.grown {w0 w w' : World} {v : Value} {xs : List SE} (h : OwnE w0 w v xs) (hg : w.grownBy w' v.ownBlock) (hb : Below w0.heap.size w0 w) : Below w0.heap.size w0 w' :=
  hb.grown hg hb.size fun k hk => (h.row.lt k hk).1
theorem flat3 : ∀ (xs : List SE) (j : Nat) (p : SE), xs[j]? = some p → ∀ f, f < 3 → (xs.flatMap SE.cells)[j * 3 + f]? = p.cells[f]?
  | [], _, _, h, _, _ => by simp at h
  | x :: r, 0, p, h, f, hf => by
    simp only [List.getElem?_cons_zero, Option.some.injEq] at h
    subst h
    rw [List.flatMap_cons, List.getElem?_append_left (by simp [SE.cells]; omega), Nat.zero_mul, Nat.zero_add]
  | x :: r, j + 1, p, h, f, hf => by
    rw [List.getElem?_cons_succ] at h
    rw [List.flatMap_cons, List.getElem?_append_right (by simp [SE.cells]; omega)]
    rw [← flat3 r j p h f hf]
    congr 1
    simp [SE.cells]; omega
theorem OwnE.isE {w0 w : World} {v : Value} {xs : List SE} (h : OwnE w0 w v xs) (hb : Below w0.heap.size w0 w) : ∃ A c, v = .slice A xs.length c ∧ IsE w A xs.length c (xs.map SE.x) := by
  rcases h.row.2 with ⟨rfl, hn⟩ | ⟨g, cap, cur, rfl, _, hg, hnc, hcm, hcs, htake⟩
  · have : xs = [] := List.eq_nil_of_length_eq_zero hn
    subst this
    exact ⟨none, 0, rfl, rfl, Nat.le_refl _, fun _ => rfl, .inl rfl⟩
  · refine ⟨some ⟨g, 0, none⟩, cap, rfl, by simp, hnc, (fun h => by cases h), .inr ⟨g, 0, rfl, fun j x hj => ?_⟩⟩
    rw [List.getElem?_map] at hj
    obtain ⟨p, hp, rfl⟩ := Option.map_eq_some_iff.1 hj
    have hc : ∀ f u, f < 3 → p.cells[f]? = some u → w.cell? ⟨g, 0 + j * 3 + f, none⟩ = some u := fun f u hf hu => by
      have := World.ownsRow.cells (g := g) h.row rfl (j * 3 + f) u ((flat3 xs j p hp f hf).trans hu)
      simpa [Addr.add_lit, Nat.add_assoc] using this
    exact ⟨hc 0 _ (by omega) rfl, hc 1 _ (by omega) rfl, p.B, p.m, p.d, hc 2 _ (by omega) rfl, (h.strs p (List.mem_of_getElem? hp)).below hb⟩

theorem SE.new_cells (W : World) (p : SE) (t : TypeId) (g : Nat) (hg : W.heap.size = g) : ∀ j u, p.cells[j]? = some u → (W.alloc (.cells #[.int .u8 (p.x.kind : Int), .int .u64 (p.x.num : Int), .slice p.B p.m p.d] t)).cell? ((⟨g, 0, none⟩ : Addr).add j) = some u := by
  intro j u hu
  subst hg
  rw [Addr.add_lit]
  rw [cell_of_row _ _ _ _ _ _ (heap_alloc_new W _)]
  simpa [SE.cells] using hu
theorem SE.one (p : SE) : ∀ u ∈ p.cells, u.oneCell' = true := by
  intro u hu
  simp [SE.cells] at hu
  rcases hu with rfl | rfl | rfl <;> rfl
/-- a slice of bools holds these -/
structure IsT (w : World) (A : Option Addr) (n c : Nat) (bs : List Bool) : Prop where
  len : bs.length = n
  cap : n ≤ c
  src : bs = [] ∨ ∃ b o, A = some ⟨b, o, none⟩ ∧ ∀ j x, bs[j]? = some x → w.cell? ⟨b, o + j, none⟩ = some (.bool x)
theorem IsT.below {w w' : World} {A : Option Addr} {n c : Nat} {bs : List Bool} (h : IsT w A n c bs) (hb : Below w.heap.size w w') : IsT w' A n c bs := by
  refine ⟨h.len, h.cap, ?_⟩
  rcases h.src with h0 | ⟨b, o, hA, hc⟩
  · exact .inl h0
  · exact .inr ⟨b, o, hA, fun j x hj => cell_below hb _ _ (hc j x hj)⟩
end Go.Proofs.Ytdcflgblaljdeaa
