/-
  BytesPages: the law's own walk, for entries whatever they are.
-/
import Derived.Test.YtdcflgblaljdeaaPagesC
import Derived.Deep.RegionHeld3
import Derived.Outline
import Derived.RegionTactic
import Derived.BigRegion
set_option linter.unusedSimpArgs false
namespace Go.Proofs.Ytdcflgblaljdeaa
open Go.RowKit
open Go.Lib (byteCells byteCells_length byteCells_append uvarint)
set_option linter.unusedVariables false

/-- the kind and the number are what their types hold -/
def Ent.ok (x : Ent) : Prop := x.kind < 256 ∧ x.num < 18446744073709551616

noncomputable def allB (l m : List Ent) : Bool := @decide (allAlike l m) (Classical.propDecidable _)
theorem allB_iff {l m : List Ent} : allB l m = true ↔ allAlike l m := by unfold allB; exact @decide_eq_true_iff _ (Classical.propDecidable _)
theorem allAlike_snoc {x y : Ent} : ∀ {l m : List Ent}, l.length = m.length → (allAlike (l ++ [x]) (m ++ [y]) ↔ allAlike l m ∧ alike x y)
  | [], [], _ => by simp [allAlike]
  | [], _ :: _, h => by simp at h
  | _ :: _, [], h => by simp at h
  | a :: l, b :: m, h => by
    have ih := allAlike_snoc (x := x) (y := y) (l := l) (m := m) (by simpa using h)
    simp only [List.cons_append, allAlike, ih]
    constructor
    · rintro ⟨h1, h2, h3⟩; exact ⟨⟨h1, h2⟩, h3⟩
    · rintro ⟨⟨h1, h2⟩, h3⟩; exact ⟨h1, h2, h3⟩
theorem allB_snoc {x y : Ent} {l m : List Ent} (h : l.length = m.length) : allB (l ++ [x]) (m ++ [y]) = (allB l m && decide (alike x y)) := by
  rw [Bool.eq_iff_iff, Bool.and_eq_true, allB_iff, allB_iff, decide_eq_true_iff, allAlike_snoc h]

set_option maxRecDepth 100000 in
set_option maxHeartbeats 2000000 in
theorem pages_walk (A : Option Addr) (n c : Nat) (es : List Ent) (A2 : Option Addr) (n2 c2 : Nat) (os : List Ent) (A3 : Option Addr) (n3 c3 : Nat) (bs : List Bool) (w : World)
    (h : IsE w A n c es) (h2 : IsE w A2 n2 c2 os) (h3 : IsT w A3 n3 c3 bs) (hok : ∀ x ∈ es, x.ok) (hok2 : ∀ x ∈ os, x.ok) (hn : n ≤ maxLen) (hn2 : n2 ≤ maxLen) (hn3 : n3 ≤ maxLen) :
    Calls Try.prog 13 #[.slice A n c, .slice A2 n2 c2, .slice A3 n3 c3] w fun e w' =>
      e = .returned (.bool true) ∧ Below w.heap.size w w' := by
  unfold maxLen at hn hn2 hn3
  have hcap := h.cap
  obtain ⟨k, hk, hkn, hk25⟩ : ∃ k : Nat, (if (25 : Int) < (n : Int) then (25 : Int) else (n : Int)) = (k : Int) ∧ k ≤ n ∧ k ≤ 25 := by
    by_cases h25 : 25 < n
    · exact ⟨25, by rw [if_pos (by omega)]; rfl, by omega, by omega⟩
    · exact ⟨n, by rw [if_neg (by omega)], by omega, by omega⟩
  have hmin : ∀ (w : World) (ts : Array TypeId) (t : TypeId), (Builtin.min_ ts t #[.int .i64 (n : Int), .int .i64 25]).run Try.prog w = .ok (.int .i64 (k : Int)) w := fun w ts t => by
    rw [run_min_int2, hk]
  have hto : ∀ w, (Instr.slice 85 (.slice A n c) none (some (.int .i64 (k : Int))) none).run Try.prog w = .ok (.slice A k c) w := fun w => run_toE w A n c k (by omega)
  have hE := h.cutTo hkn
  clear hk h
  go_enter Try.func13, Try.ntmps13
  go_wp2_with fail
  go_loopw [7, 8, 19] (fun v sm q wr => ∃ (j : Nat) (xs : List SE), q = .int .i64 (j : Int) ∧ j ≤ k ∧ sm = .bool (allB (es.take j) (xs.map SE.x)) ∧ OwnE w wr v xs ∧ Hid (xs.length = j) ∧ Hid ((es.take j).map Ent.kind = (xs.map SE.x).map Ent.kind) ∧ (∀ x ∈ es.take j, x.wf) ∧ (∀ p ∈ xs, p.x.wf) ∧ Below w.heap.size w wr) (fun _ _ q _ => k - (intOf q).toNat)
  case atStart => exact ⟨0, [], rfl, by omega, congrArg Value.bool (allB_iff.2 (by rw [List.take_zero]; trivial)).symm, OwnE.nil _ _, rfl, by show _ = _; simp, by simp, by simp, Below.refl _ _⟩
  case round =>
    obtain ⟨j, xs, rfl, hj, rfl, hO, hxl, hkd, hwl, hwm, hB⟩ := hrel
    have hEl := hE.len
    by_cases hjk : j < k
    · obtain ⟨x, hx⟩ : ∃ x, (es.take k)[j]? = some x := ⟨_, List.getElem?_eq_getElem (by omega)⟩
      have hx' : es[j]? = some x := by rwa [List.getElem?_take_of_lt hjk] at hx
      obtain ⟨b, o, rfl, hc⟩ : ∃ b o, A = some ⟨b, o, none⟩ ∧ _ := by
        rcases hE.src with h0 | h0
        · rw [h0] at hEl; simp at hEl; omega
        · exact h0
      obtain ⟨c0, c1, B, m, d, c2, hb⟩ := hc j x hx
      have hd : decide ((j : Int) < (k : Int)) = true := decide_eq_true (by omega)
      have hxo := hok x (List.mem_of_getElem? hx')
      clear hc
      have b0 := cell_below hB _ _ c0
      have b1 := cell_below hB _ _ c1
      have b2 := cell_below hB _ _ c2
      by_cases hlong : m ≤ 100
      · have e1 : decide ((100 : Int) < (m : Int)) = false := by simp; omega
        have hxw : x.wf := ⟨hxo.1, hxo.2, by have := hb.len; omega⟩
        have HT : Hid (es.take (j + 1) = es.take j ++ [x]) := by
          show _ = _
          obtain ⟨hjl, ex⟩ := List.getElem?_eq_some_iff.1 hx'
          rw [List.take_succ_eq_append_getElem hjl, ex]
        obtain ⟨sb, hsb⟩ : ∃ sb, allB (es.take j) (xs.map SE.x) = sb := ⟨_, rfl⟩
        have HSB := Lib.hid hsb
        rw [hsb]
        obtain ⟨i0, hi, hz0, hz1, hz2⟩ := info_parts infoEntry
        have hln : (es.take j).length = (xs.map SE.x).length := by rw [List.length_take, List.length_map, hxl.out]; have := hE.len; rw [List.length_take] at this; omega
        have HLN := Lib.hid hln
        clear hsb hln hx hx' hEl hE
        have hxl' : xs.length ≤ 25 := by rw [hxl.out]; omega
        have hcase : (n2 ≤ j) ∨ (j < n2 ∧ n3 ≤ j) ∨
            (j < n2 ∧ j < n3 ∧ ∃ (bb ob : Nat) (tb : Bool), A3 = some ⟨bb, ob, none⟩ ∧ wr.cell? ⟨bb, ob + j, none⟩ = some (.bool tb) ∧
              (tb = false ∨ (tb = true ∧ ∃ (y : Ent) (by_ oy : Nat) (B' : Option Addr) (m' d' : Nat), A2 = some ⟨by_, oy, none⟩ ∧ y.ok ∧ IsB w B' m' d' y.str ∧
                wr.cell? ⟨by_, oy + j * 3, none⟩ = some (.int .u8 (y.kind : Int)) ∧ wr.cell? ⟨by_, oy + j * 3 + 1, none⟩ = some (.int .u64 (y.num : Int)) ∧ wr.cell? ⟨by_, oy + j * 3 + 2, none⟩ = some (.slice B' m' d')))) := by
          by_cases q2 : j < n2
          · have e2 : j < n2 := q2
            by_cases q3 : j < n3
            · have e3 : j < n3 := q3
              have l2 := h2.len
              have l3 := h3.len
              refine .inr (.inr ⟨e2, e3, ?_⟩)
              obtain ⟨tb, htb⟩ : ∃ x, bs[j]? = some x := ⟨_, List.getElem?_eq_getElem (by omega)⟩
              obtain ⟨y, hy⟩ : ∃ x, os[j]? = some x := ⟨_, List.getElem?_eq_getElem (by omega)⟩
              rcases h3.src with h0 | ⟨bb, ob, hA3, hcb⟩
              · rw [h0] at htb; simp at htb
              rcases h2.src with h0 | ⟨b2', o2', hA2, hc2⟩
              · rw [h0] at hy; simp at hy
              refine ⟨bb, ob, tb, hA3, cell_below hB _ _ (hcb j tb htb), ?_⟩
              cases tb
              · exact .inl rfl
              · obtain ⟨y0, y1, B', m', d', y2, hyB⟩ := hc2 j y hy
                exact .inr ⟨rfl, y, b2', o2', B', m', d', hA2, hok2 y (List.mem_of_getElem? hy), hyB, cell_below hB _ _ y0, cell_below hB _ _ y1, cell_below hB _ _ y2⟩
            · exact .inr (.inl ⟨e2, by omega⟩)
          · exact .inl (by omega)
        have hcap2 := h2.cap
        have hcap3 := h3.cap
        clear h2 h3 hok hok2 hto hmin
        have hsplit : (∃ (y : Ent) (by_ oy : Nat) (B' : Option Addr) (m' d' : Nat) (bb ob : Nat), j < n2 ∧ j < n3 ∧ A3 = some ⟨bb, ob, none⟩ ∧ wr.cell? ⟨bb, ob + j, none⟩ = some (.bool true) ∧
              A2 = some ⟨by_, oy, none⟩ ∧ y.ok ∧ IsB w B' m' d' y.str ∧ wr.cell? ⟨by_, oy + j * 3, none⟩ = some (.int .u8 (y.kind : Int)) ∧ wr.cell? ⟨by_, oy + j * 3 + 1, none⟩ = some (.int .u64 (y.num : Int)) ∧ wr.cell? ⟨by_, oy + j * 3 + 2, none⟩ = some (.slice B' m' d') ∧ m' ≤ 100) ∨
            (n2 ≤ j ∨ (j < n2 ∧ n3 ≤ j) ∨
             (∃ (bb ob : Nat), j < n2 ∧ j < n3 ∧ A3 = some ⟨bb, ob, none⟩ ∧ wr.cell? ⟨bb, ob + j, none⟩ = some (.bool false)) ∨
             (∃ (by_ oy : Nat) (B' : Option Addr) (m' d' : Nat) (bb ob : Nat), j < n2 ∧ j < n3 ∧ A3 = some ⟨bb, ob, none⟩ ∧ wr.cell? ⟨bb, ob + j, none⟩ = some (.bool true) ∧
              A2 = some ⟨by_, oy, none⟩ ∧ wr.cell? ⟨by_, oy + j * 3 + 2, none⟩ = some (.slice B' m' d') ∧ 100 < m')) := by
          rcases hcase with h1 | h1 | ⟨e2, e3, bb, ob, tb, hA3, hcb, ht | ⟨ht, y, by_, oy, B', m', d', hA2, hyo, hyB, y0, y1, y2⟩⟩
          · exact .inr (.inl h1)
          · exact .inr (.inr (.inl h1))
          · subst ht; exact .inr (.inr (.inr (.inl ⟨bb, ob, e2, e3, hA3, hcb⟩)))
          · subst ht
            by_cases hm' : m' ≤ 100
            · exact .inl ⟨y, by_, oy, B', m', d', bb, ob, e2, e3, hA3, hcb, hA2, hyo, hyB, y0, y1, y2, hm'⟩
            · exact .inr (.inr (.inr (.inr ⟨by_, oy, B', m', d', bb, ob, e2, e3, hA3, hcb, hA2, y2, by omega⟩)))
        clear hcase
        have hbw := hb.below hB
        rcases hsplit with hch | hst
        · obtain ⟨y, by_, oy, B', m', d', bb, ob, e2, e3, rfl, hcb, rfl, hyo, hyB, y0, y1, y2, em⟩ := hch
          have hW2 : Below wr.heap.size wr ((wr.alloc (.cells #[.int .u8 (x.kind : Int), .int .u64 (x.num : Int), .slice B m d] 89)).alloc (.cells #[.int .u8 (x.kind : Int), .int .u64 (x.num : Int), .slice B m d] 89)) := ((Below.refl _ wr).alloc (Nat.le_refl _) _).alloc (by simp) _
          have hybw := hyB.below hB
          have hcb2 := cell_below hW2 _ _ hcb
          have y02 := cell_below hW2 _ _ y0
          have y12 := cell_below hW2 _ _ y1
          have y22 := cell_below hW2 _ _ y2
          clear hcb y0 y1 y2
          go_wp2_with fail
          go_region
          have hBw : Below w.heap.size w ((wr.alloc (.cells #[.int .u8 (x.kind : Int), .int .u64 (x.num : Int), .slice B m d] 89)).alloc (.cells #[.int .u8 (x.kind : Int), .int .u64 (y.num : Int), .slice B' m' d'] 89)).drew := ((hB.alloc hB.size _).alloc (by have := hB.size; simp; omega) _).drew
          have hR := (hO.below ((Below.refl _ wr).alloc (Nat.le_refl _) (.cells #[.int .u8 (x.kind : Int), .int .u64 (x.num : Int), .slice B m d] 89))).below ((Below.refl _ _).alloc (Nat.le_refl _) (.cells #[.int .u8 (x.kind : Int), .int .u64 (y.num : Int), .slice B' m' d'] 89)).drew
          clear y02 y12 y22 hcb2 hW2
          cases sb
          · go_wp2_with (at_builtin; refine wpList_append_own _ rfl (.tmp 74) (.tmp 76) 85 rfl w.heap.size 89 i0 (.agg #[.int .u8 0, .int .u64 0, .slice none 0 0]) 3 40 Try.underlying85 hi hz0 hz1 hz2 rfl (by decide) _ xs.length _ rfl (hR.row.alloc _) ⟨wr.heap.size + 1 + 1, 0, none⟩ 1 1 (SE.cells ⟨Ent.mk x.kind y.num y.str, B', m', d'⟩) rfl rfl (SE.new_cells _ ⟨Ent.mk x.kind y.num y.str, B', m', d'⟩ _ _ (by simp)) (SE.one _) (by unfold maxLen; omega) (by omega) (by have := hBw.size; simp at this ⊢; omega) ?_; intro v' w4 hown' hgrow _)
            have hO4 := hO.snoc (p := ⟨Ent.mk x.kind y.num y.str, B', m', d'⟩) hyB hown'
            have hB4 : Below w.heap.size w w4 := (hBw.alloc hBw.size _).grown hgrow (by have := hBw.size; simp at this ⊢; omega) fun k hk => (hO.row.lt k hk).1
            clear hown' hgrow hR hO hB hBw b0 b1 b2 c0 c1 c2
            go_wp2_with fail
            go_roundw
            case rel => exact ⟨j + 1, xs ++ [⟨Ent.mk x.kind y.num y.str, B', m', d'⟩], by go_num, by omega, by rw [HT.out, List.map_append, List.map_singleton, allB_snoc HLN.out, HSB.out]; rfl, hO4, by show _ = _; rw [List.length_append, hxl.out]; rfl, by show _ = _; rw [HT.out, List.map_append, List.map_append, List.map_append, hkd.out]; rfl, by rw [HT.out]; intro z hz; rcases List.mem_append.1 hz with hz | hz; exact hwl z hz; simp at hz; subst hz; exact hxw, by intro z hz; rcases List.mem_append.1 hz with hz | hz; exact hwm z hz; simp at hz; subst hz; exact ⟨hxo.1, hyo.2, by have := hyB.len; show y.str.length ≤ 100; omega⟩, hB4⟩
            case measure => simp [intOf]; omega
          · go_wp2_with fail
            refine (like_any x ⟨x.kind, y.num, y.str⟩ B m d B' m' d' _ (((hbw.alloc _).alloc _).drew) (((hybw.alloc _).alloc _).drew)).mono ?_
            rintro e w5 ⟨rfl, hb5⟩
            have hq := (show ((wr.alloc (.cells #[.int .u8 (x.kind : Int), .int .u64 (x.num : Int), .slice B m d] 89)).alloc (.cells #[.int .u8 (x.kind : Int), .int .u64 (y.num : Int), .slice B' m' d'] 89)).heap[wr.heap.size + 1]? = some (.cells #[.int .u8 (x.kind : Int), .int .u64 (y.num : Int), .slice B' m' d'] 89) from by have := heap_alloc_new (wr.alloc (.cells #[.int .u8 (x.kind : Int), .int .u64 (x.num : Int), .slice B m d] 89)) (.cells #[.int .u8 (x.kind : Int), .int .u64 (y.num : Int), .slice B' m' d'] 89); simpa using this)
            have q1 : w5.heap[wr.heap.size + 1]? = some (.cells #[.int .u8 (x.kind : Int), .int .u64 (y.num : Int), .slice B' m' d'] 89) := (hb5.block _ (by simp <;> omega)).trans hq
            have x0 : w5.cell? ⟨wr.heap.size + 1, 0, none⟩ = some (.int .u8 (x.kind : Int)) := cell_of_row w5 _ 0 _ _ _ q1
            have x1 : w5.cell? ⟨wr.heap.size + 1, 1, none⟩ = some (.int .u64 (y.num : Int)) := cell_of_row w5 _ 1 _ _ _ q1
            have x2 : w5.cell? ⟨wr.heap.size + 1, 2, none⟩ = some (.slice B' m' d') := cell_of_row w5 _ 2 _ _ _ q1
            have hR5 := hR.below hb5
            have hBw5 := bstep0 hBw hb5
            clear hq q1 hb5 hR
            go_wp2_with (at_builtin; refine wpList_append_own _ rfl (.tmp 74) (.tmp 76) 85 rfl w.heap.size 89 i0 (.agg #[.int .u8 0, .int .u64 0, .slice none 0 0]) 3 40 Try.underlying85 hi hz0 hz1 hz2 rfl (by decide) _ xs.length _ rfl (hR5.row.alloc _) ⟨w5.heap.size, 0, none⟩ 1 1 (SE.cells ⟨Ent.mk x.kind y.num y.str, B', m', d'⟩) rfl rfl (SE.new_cells _ ⟨Ent.mk x.kind y.num y.str, B', m', d'⟩ _ _ (by simp)) (SE.one _) (by unfold maxLen; omega) (by omega) (by have := hBw5.size; simp at this ⊢; omega) ?_; intro v' w4 hown' hgrow _)
            have hO4 := hO.snoc (p := ⟨Ent.mk x.kind y.num y.str, B', m', d'⟩) hyB hown'
            have hB4 : Below w.heap.size w w4 := (hBw5.alloc hBw5.size _).grown hgrow (by have := hBw5.size; simp at this ⊢; omega) fun k hk => (hO.row.lt k hk).1
            clear hown' hgrow hR5 hO hB hBw hBw5 b0 b1 b2 c0 c1 c2 x0 x1 x2
            go_wp2_with fail
            go_roundw
            case rel => exact ⟨j + 1, xs ++ [⟨Ent.mk x.kind y.num y.str, B', m', d'⟩], by go_num, by omega, by rw [HT.out, List.map_append, List.map_singleton, allB_snoc HLN.out, HSB.out, Bool.true_and], hO4, by show _ = _; rw [List.length_append, hxl.out]; rfl, by show _ = _; rw [HT.out, List.map_append, List.map_append, List.map_append, hkd.out]; rfl, by rw [HT.out]; intro z hz; rcases List.mem_append.1 hz with hz | hz; exact hwl z hz; simp at hz; subst hz; exact hxw, by intro z hz; rcases List.mem_append.1 hz with hz | hz; exact hwm z hz; simp at hz; subst hz; exact ⟨hxo.1, hyo.2, by have := hyB.len; show y.str.length ≤ 100; omega⟩, hB4⟩
            case measure => simp [intOf]; omega
        · have hBw : Below w.heap.size w ((wr.alloc (.cells #[.int .u8 (x.kind : Int), .int .u64 (x.num : Int), .slice B m d] 89)).alloc (.cells #[.int .u8 (x.kind : Int), .int .u64 (x.num : Int), .slice B m d] 89)) := (hB.alloc hB.size _).alloc (by have := hB.size; simp; omega) _
          have hR := ((hO.below ((Below.refl _ wr).alloc (Nat.le_refl _) (.cells #[.int .u8 (x.kind : Int), .int .u64 (x.num : Int), .slice B m d] 89))).below ((Below.refl _ _).alloc (Nat.le_refl _) (.cells #[.int .u8 (x.kind : Int), .int .u64 (x.num : Int), .slice B m d] 89)))
          rcases hst with e2 | ⟨e2, e3⟩ | ⟨bb, ob, e2, e3, rfl, hcb⟩ | ⟨by_, oy, B', m', d', bb, ob, e2, e3, rfl, hcb, rfl, y2, em⟩
          all_goals
            have hW2 : Below wr.heap.size wr ((wr.alloc (.cells #[.int .u8 (x.kind : Int), .int .u64 (x.num : Int), .slice B m d] 89)).alloc (.cells #[.int .u8 (x.kind : Int), .int .u64 (x.num : Int), .slice B m d] 89)) := ((Below.refl _ wr).alloc (Nat.le_refl _) _).alloc (by simp) _
            try have hcb2 := cell_below hW2 _ _ hcb
            try have y22 := cell_below hW2 _ _ y2
            try clear hcb
            try clear y2
            clear hW2
            cases sb
            · go_wp2_with (at_builtin; refine wpList_append_own _ rfl (.tmp 74) (.tmp 76) 85 rfl w.heap.size 89 i0 (.agg #[.int .u8 0, .int .u64 0, .slice none 0 0]) 3 40 Try.underlying85 hi hz0 hz1 hz2 rfl (by decide) _ xs.length _ rfl (hR.row.alloc _) ⟨wr.heap.size + 1 + 1, 0, none⟩ 1 1 (SE.cells ⟨x, B, m, d⟩) rfl rfl (SE.new_cells _ ⟨x, B, m, d⟩ _ _ (by simp)) (SE.one _) (by unfold maxLen; omega) (by omega) (by have := hBw.size; simp at this ⊢; omega) ?_; intro v' w4 hown' hgrow _)
              have hO4 := hO.snoc (p := ⟨x, B, m, d⟩) hb hown'
              have hB4 : Below w.heap.size w w4 := (hBw.alloc hBw.size _).grown hgrow (by have := hBw.size; simp at this ⊢; omega) fun k hk => (hO.row.lt k hk).1
              clear hown' hgrow hR hO hB hBw b0 b1 b2 c0 c1 c2
              go_wp2_with fail
              go_roundw
              case rel => exact ⟨j + 1, xs ++ [⟨x, B, m, d⟩], by go_num, by omega, by rw [HT.out, List.map_append, List.map_singleton, allB_snoc HLN.out, HSB.out]; rfl, hO4, by show _ = _; rw [List.length_append, hxl.out]; rfl, by show _ = _; rw [HT.out, List.map_append, List.map_append, List.map_append, hkd.out]; rfl, by rw [HT.out]; intro z hz; rcases List.mem_append.1 hz with hz | hz; exact hwl z hz; simp at hz; subst hz; exact hxw, by intro z hz; rcases List.mem_append.1 hz with hz | hz; exact hwm z hz; simp at hz; subst hz; exact hxw, hB4⟩
              case measure => simp [intOf]; omega
            · go_wp2_with fail
              refine (like_any x x B m d B m d _ ((hbw.alloc _).alloc _) ((hbw.alloc _).alloc _)).mono ?_
              rintro e w5 ⟨rfl, hb5⟩
              have hq := (by have := heap_alloc_new (wr.alloc (.cells #[.int .u8 (x.kind : Int), .int .u64 (x.num : Int), .slice B m d] 89)) (.cells #[.int .u8 (x.kind : Int), .int .u64 (x.num : Int), .slice B m d] 89); simpa using this : ((wr.alloc (.cells #[.int .u8 (x.kind : Int), .int .u64 (x.num : Int), .slice B m d] 89)).alloc (.cells #[.int .u8 (x.kind : Int), .int .u64 (x.num : Int), .slice B m d] 89)).heap[wr.heap.size + 1]? = some (.cells #[.int .u8 (x.kind : Int), .int .u64 (x.num : Int), .slice B m d] 89))
              have q1 : w5.heap[wr.heap.size + 1]? = some (.cells #[.int .u8 (x.kind : Int), .int .u64 (x.num : Int), .slice B m d] 89) := (hb5.block _ (by simp <;> omega)).trans hq
              have x0 : w5.cell? ⟨wr.heap.size + 1, 0, none⟩ = some (.int .u8 (x.kind : Int)) := cell_of_row w5 _ 0 _ _ _ q1
              have x1 : w5.cell? ⟨wr.heap.size + 1, 1, none⟩ = some (.int .u64 (x.num : Int)) := cell_of_row w5 _ 1 _ _ _ q1
              have x2 : w5.cell? ⟨wr.heap.size + 1, 2, none⟩ = some (.slice B m d) := cell_of_row w5 _ 2 _ _ _ q1
              have hR5 := hR.below hb5
              have hBw5 := bstep0 hBw hb5
              clear hq q1 hb5 hR
              go_wp2_with (at_builtin; refine wpList_append_own _ rfl (.tmp 74) (.tmp 76) 85 rfl w.heap.size 89 i0 (.agg #[.int .u8 0, .int .u64 0, .slice none 0 0]) 3 40 Try.underlying85 hi hz0 hz1 hz2 rfl (by decide) _ xs.length _ rfl (hR5.row.alloc _) ⟨w5.heap.size, 0, none⟩ 1 1 (SE.cells ⟨x, B, m, d⟩) rfl rfl (SE.new_cells _ ⟨x, B, m, d⟩ _ _ (by simp)) (SE.one _) (by unfold maxLen; omega) (by omega) (by have := hBw5.size; simp at this ⊢; omega) ?_; intro v' w4 hown' hgrow _)
              have hO4 := hO.snoc (p := ⟨x, B, m, d⟩) hb hown'
              have hB4 : Below w.heap.size w w4 := (hBw5.alloc hBw5.size _).grown hgrow (by have := hBw5.size; simp at this ⊢; omega) fun k hk => (hO.row.lt k hk).1
              clear hown' hgrow hR5 hO hB hBw hBw5 b0 b1 b2 c0 c1 c2 x0 x1 x2
              go_wp2_with fail
              go_roundw
              case rel => exact ⟨j + 1, xs ++ [⟨x, B, m, d⟩], by go_num, by omega, by rw [HT.out, List.map_append, List.map_singleton, allB_snoc HLN.out, HSB.out, Bool.true_and], hO4, by show _ = _; rw [List.length_append, hxl.out]; rfl, by show _ = _; rw [HT.out, List.map_append, List.map_append, List.map_append, hkd.out]; rfl, by rw [HT.out]; intro z hz; rcases List.mem_append.1 hz with hz | hz; exact hwl z hz; simp at hz; subst hz; exact hxw, by intro z hz; rcases List.mem_append.1 hz with hz | hz; exact hwm z hz; simp at hz; subst hz; exact hxw, hB4⟩
              case measure => simp [intOf]; omega
      · have e1 : decide ((100 : Int) < (m : Int)) = true := by simp; omega
        clear hx hx' hxo hwl hwm hkd hxl
        go_wp2_with fail
        refine (awake_any _).mono ?_
        rintro e w2 ⟨rfl, hb2⟩
        have hB2 := bstep hB hb2
        go_wp2_with fail
        go_ret
        exact ⟨rfl, hB2⟩
    · obtain rfl : j = k := by omega
      have hd : decide ((j : Int) < (j : Int)) = false := by simp
      obtain ⟨A', c', rfl, hEm⟩ := hO.isE hB
      have hEl := hE.below hB
      have hwm' : ∀ x ∈ xs.map SE.x, x.wf := by intro z hz; obtain ⟨q, hq, rfl⟩ := List.mem_map.1 hz; exact hwm q hq
      obtain ⟨nm, hnm'⟩ : ∃ nm, nm = xs.length := ⟨_, rfl⟩
      have hnm : nm ≤ 25 := by rw [hnm', hxl.out]; omega
      rw [← hnm'] at hEm ⊢
      have hB9 := hB
      have hpe : allB (es.take j) (xs.map SE.x) = true ↔ pageOf (es.take j) = pageOf (xs.map SE.x) := by
        rw [allB_iff]
        exact ⟨page_same _ _ hkd.out, page_inj _ _ hkd.out hwl hwm'⟩
      clear hO hB hE h2 h3 hok hok2 hmin hto hkd hxl hnm' hwm
      go_wp2_with fail
      obtain ⟨sb, hsb⟩ : ∃ sb, allB (es.take j) (xs.map SE.x) = sb := ⟨_, rfl⟩
      rw [hsb] at hpe ⊢
      clear hsb
      cases sb
      · obtain ⟨s1, hs1⟩ : ∃ s : ByteArray, s = ⟨(pageOf (es.take j)).toArray⟩ := ⟨_, rfl⟩
        obtain ⟨s2, hs2⟩ : ∃ s : ByteArray, s = ⟨(pageOf (xs.map SE.x)).toArray⟩ := ⟨_, rfl⟩
        have hne : (s1.toList == s2.toList) = false := by
          rw [str_same hs1 hs2]
          exact decide_eq_false fun h => by have := hpe.2 h; cases this
        have HS1 := Lib.hid hs1
        have HS2 := Lib.hid hs2
        clear hs1 hs2 hpe
        replace hEl := hEl.below (Below.refl _ wr).drew
        replace hEm := hEm.below (Below.refl _ wr).drew
        replace hB9 := hB9.drew
        refine wp_region_held_drew (S := fun w' => Below wr.drew.heap.size wr.drew w') (by kernel_rfl) (Below.refl _ _) (fun hHeld => ?_)
        generalize wr.drew = wa at hEl hEm hB9 hHeld ⊢
        refine wpAnyH_take (i := 0) (v := ?_) rfl (by kernel_rfl) (by kernel_rfl) (by kernel_rfl) (fun _ _ _ h => h) (Or.inl ⟨by rfl, ?_⟩) hHeld ?_
        rotate_left
        · (intro w hSw; (try dsimp only at hSw); go_simp <;> rfl)
        simp only [Act.put, List.getElem_toArray, List.getElem_cons_zero, List.getElem_cons_succ, List.setIfInBounds_toArray, List.set_cons_zero, List.set_cons_succ]
        refine wpAnyH_ready (rs := [1]) (by kernel_rfl) (by simp) ?_
        refine AllReadyH.cons rfl (fun K hK => ?_) AllReadyH.nil
        go_simp
        refine (turns_any A j c (es.take j) wa hEl hk25 hwl).mono ?_
        rintro ex wb ⟨rfl, hbN⟩
        dsimp only
        refine hK.out _ _ (bstep0 hHeld hbN) (fun hHeld => ?_)
        clear hK K
        try simp only [Act.put, List.getElem_toArray, List.getElem_cons_zero, List.getElem_cons_succ, List.setIfInBounds_toArray, List.set_cons_zero, List.set_cons_succ]
        refine wpAnyH_mono (S' := fun w' => Below wb.heap.size wb w') (fun _ hh => bstep0 hHeld hh) _ _ _ _ ?_
        replace hHeld : Below wb.heap.size wb wb := Below.refl _ _
        replace hEl := hEl.below hbN
        replace hEm := hEm.below hbN
        replace hB9 := bstep0 hB9 hbN
        clear hbN
        refine wpAnyH_take (i := 2) (v := ?_) rfl (by kernel_rfl) (by kernel_rfl) (by kernel_rfl) (fun _ _ _ h => h) (Or.inl ⟨by rfl, ?_⟩) hHeld ?_
        rotate_left
        · (intro w hSw; (try dsimp only at hSw); go_simp <;> rfl)
        simp only [Act.put, List.getElem_toArray, List.getElem_cons_zero, List.getElem_cons_succ, List.setIfInBounds_toArray, List.set_cons_zero, List.set_cons_succ]
        refine wpAnyH_take (i := 3) (v := ?_) rfl (by kernel_rfl) (by kernel_rfl) (by kernel_rfl) (fun _ _ _ h => h) (Or.inl ⟨by rfl, ?_⟩) hHeld ?_
        rotate_left
        · (intro w hSw; (try dsimp only at hSw); go_simp <;> rfl)
        simp only [Act.put, List.getElem_toArray, List.getElem_cons_zero, List.getElem_cons_succ, List.setIfInBounds_toArray, List.set_cons_zero, List.set_cons_succ]
        refine wpAnyH_ready (rs := [4]) (by kernel_rfl) (by simp) ?_
        refine AllReadyH.cons rfl (fun K hK => ?_) AllReadyH.nil
        go_simp
        refine (turns_any A' nm c' (xs.map SE.x) wb hEm hnm hwm').mono ?_
        rintro ex wc ⟨rfl, hbN⟩
        dsimp only
        refine hK.out _ _ (bstep0 hHeld hbN) (fun hHeld => ?_)
        clear hK K
        try simp only [Act.put, List.getElem_toArray, List.getElem_cons_zero, List.getElem_cons_succ, List.setIfInBounds_toArray, List.set_cons_zero, List.set_cons_succ]
        refine wpAnyH_mono (S' := fun w' => Below wc.heap.size wc w') (fun _ hh => bstep0 hHeld hh) _ _ _ _ ?_
        replace hHeld : Below wc.heap.size wc wc := Below.refl _ _
        replace hEl := hEl.below hbN
        replace hEm := hEm.below hbN
        replace hB9 := bstep0 hB9 hbN
        clear hbN
        refine wpAnyH_take (i := 5) (v := ?_) rfl (by kernel_rfl) (by kernel_rfl) (by kernel_rfl) (fun _ _ _ h => h) (Or.inl ⟨by rfl, ?_⟩) hHeld ?_
        rotate_left
        · (intro w hSw; (try dsimp only at hSw); go_simp <;> rfl)
        simp only [Act.put, List.getElem_toArray, List.getElem_cons_zero, List.getElem_cons_succ, List.setIfInBounds_toArray, List.set_cons_zero, List.set_cons_succ]
        refine wpAnyH_take (i := 6) (v := ?_) rfl (by kernel_rfl) (by kernel_rfl) (by kernel_rfl) (fun _ _ _ h => h) (Or.inl ⟨by rfl, ?_⟩) hHeld ?_
        rotate_left
        · (intro w hSw; (try dsimp only at hSw); go_simp <;> rfl)
        simp only [Act.put, List.getElem_toArray, List.getElem_cons_zero, List.getElem_cons_succ, List.setIfInBounds_toArray, List.set_cons_zero, List.set_cons_succ]
        refine wpAnyH_take (i := 7) (v := ?_) rfl (by kernel_rfl) (by kernel_rfl) (by kernel_rfl) (fun _ _ _ h => h) (Or.inl ⟨by rfl, ?_⟩) hHeld ?_
        rotate_left
        · (intro w hSw; (try dsimp only at hSw); go_simp <;> rfl)
        simp only [Act.put, List.getElem_toArray, List.getElem_cons_zero, List.getElem_cons_succ, List.setIfInBounds_toArray, List.set_cons_zero, List.set_cons_succ]
        refine wpAnyH_take (i := 10) (v := ?_) rfl (by kernel_rfl) (by kernel_rfl) (by kernel_rfl) (fun _ _ _ h => h) (Or.inl ⟨by rfl, ?_⟩) hHeld ?_
        rotate_left
        · (intro w hSw; (try dsimp only at hSw); go_simp <;> rfl)
        simp only [Act.put, List.getElem_toArray, List.getElem_cons_zero, List.getElem_cons_succ, List.setIfInBounds_toArray, List.set_cons_zero, List.set_cons_succ]
        refine wpAnyH_take (i := 14) (v := ?_) rfl (by kernel_rfl) (by kernel_rfl) (by kernel_rfl) (fun _ _ _ h => h) (Or.inl ⟨by rfl, ?_⟩) hHeld ?_
        rotate_left
        · (intro w hSw; (try dsimp only at hSw); go_simp <;> rfl)
        simp only [Act.put, List.getElem_toArray, List.getElem_cons_zero, List.getElem_cons_succ, List.setIfInBounds_toArray, List.set_cons_zero, List.set_cons_succ]
        refine wpAnyH_ready (rs := [8]) (by kernel_rfl) (by simp) ?_
        refine AllReadyH.cons rfl (fun K hK => ?_) AllReadyH.nil
        go_simp
        refine (page_any A j c (es.take j) wc hEl hk25 hwl).mono ?_
        rintro ex wd ⟨v1, rfl, ho1, hbN⟩
        obtain ⟨P1, m1, c1, rfl, hp1⟩ := own_slice ho1
        clear ho1
        dsimp only
        refine hK.out _ _ (bstep0 hHeld hbN) (fun hHeld => ?_)
        clear hK K
        try simp only [Act.put, List.getElem_toArray, List.getElem_cons_zero, List.getElem_cons_succ, List.setIfInBounds_toArray, List.set_cons_zero, List.set_cons_succ]
        refine wpAnyH_mono (S' := fun w' => Below wd.heap.size wd w') (fun _ hh => bstep0 hHeld hh) _ _ _ _ ?_
        replace hHeld : Below wd.heap.size wd wd := Below.refl _ _
        replace hEm := hEm.below hbN
        replace hB9 := bstep0 hB9 hbN
        clear hbN
        refine wpAnyH_take (i := 9) (v := ?_) rfl (by kernel_rfl) (by kernel_rfl) (by kernel_rfl) (fun _ _ _ h => h) (Or.inl ⟨by rfl, ?_⟩) hHeld ?_
        rotate_left
        · (intro wz hSw; (try dsimp only at hSw); have hcv := str_as' wz (hp1.below hSw) HS1.out; clear hSw; go_simp <;> rfl)
        simp only [Act.put, List.getElem_toArray, List.getElem_cons_zero, List.getElem_cons_succ, List.setIfInBounds_toArray, List.set_cons_zero, List.set_cons_succ]
        clear hp1
        refine wpAnyH_ready (rs := [11]) (by kernel_rfl) (by simp) ?_
        refine AllReadyH.cons rfl (fun K hK => ?_) AllReadyH.nil
        go_simp
        refine (page_any A' nm c' (xs.map SE.x) wd hEm hnm hwm').mono ?_
        rintro ex we ⟨v2, rfl, ho2, hbN⟩
        obtain ⟨P2, m2, c2', rfl, hp2⟩ := own_slice ho2
        clear ho2
        dsimp only
        refine hK.out _ _ (bstep0 hHeld hbN) (fun hHeld => ?_)
        clear hK K
        try simp only [Act.put, List.getElem_toArray, List.getElem_cons_zero, List.getElem_cons_succ, List.setIfInBounds_toArray, List.set_cons_zero, List.set_cons_succ]
        refine wpAnyH_mono (S' := fun w' => Below we.heap.size we w') (fun _ hh => bstep0 hHeld hh) _ _ _ _ ?_
        replace hHeld : Below we.heap.size we we := Below.refl _ _
        replace hB9 := bstep0 hB9 hbN
        clear hbN
        refine wpAnyH_take (i := 12) (v := ?_) rfl (by kernel_rfl) (by kernel_rfl) (by kernel_rfl) (fun _ _ _ h => h) (Or.inl ⟨by rfl, ?_⟩) hHeld ?_
        rotate_left
        · (intro wz hSw; (try dsimp only at hSw); have hcv := str_as' wz (hp2.below hSw) HS2.out; clear hSw; go_simp <;> rfl)
        simp only [Act.put, List.getElem_toArray, List.getElem_cons_zero, List.getElem_cons_succ, List.setIfInBounds_toArray, List.set_cons_zero, List.set_cons_succ]
        clear hp2
        refine wpAnyH_take (i := 13) (v := ?_) rfl (by kernel_rfl) (by kernel_rfl) (by kernel_rfl) (fun _ _ _ h => h) (Or.inl ⟨by rfl, ?_⟩) hHeld ?_
        rotate_left
        · (intro w hSw; (try dsimp only at hSw); go_simp <;> rfl)
        simp only [Act.put, List.getElem_toArray, List.getElem_cons_zero, List.getElem_cons_succ, List.setIfInBounds_toArray, List.set_cons_zero, List.set_cons_succ]
        refine wpAnyH_take (i := 15) (v := ?_) rfl (by kernel_rfl) (by kernel_rfl) (by kernel_rfl) (fun _ _ _ h => h) (Or.inl ⟨by rfl, ?_⟩) hHeld ?_
        rotate_left
        · (intro w hSw; (try dsimp only at hSw); go_simp <;> rfl)
        simp only [Act.put, List.getElem_toArray, List.getElem_cons_zero, List.getElem_cons_succ, List.setIfInBounds_toArray, List.set_cons_zero, List.set_cons_succ]
        refine wpAnyH_take (i := 16) (v := ?_) rfl (by kernel_rfl) (by kernel_rfl) (by kernel_rfl) (fun _ _ _ h => h) (Or.inl ⟨by rfl, ?_⟩) hHeld ?_
        rotate_left
        · (intro w hSw; (try dsimp only at hSw); go_simp <;> rfl)
        simp only [Act.put, List.getElem_toArray, List.getElem_cons_zero, List.getElem_cons_succ, List.setIfInBounds_toArray, List.set_cons_zero, List.set_cons_succ]
        refine wpAnyH_take (i := 17) (v := ?_) rfl (by kernel_rfl) (by kernel_rfl) (by kernel_rfl) (fun _ _ _ h => h) (Or.inl ⟨by rfl, ?_⟩) hHeld ?_
        rotate_left
        · (intro w hSw; (try dsimp only at hSw); go_simp <;> rfl)
        simp only [Act.put, List.getElem_toArray, List.getElem_cons_zero, List.getElem_cons_succ, List.setIfInBounds_toArray, List.set_cons_zero, List.set_cons_succ]
        refine wpAnyH_ready (rs := [18]) (by kernel_rfl) (by simp) ?_
        refine AllReadyH.cons rfl (fun K hK => ?_) AllReadyH.nil
        go_simp
        refine (awake_any we).mono ?_
        rintro ex wf ⟨rfl, hbN⟩
        dsimp only
        refine hK.out _ _ (bstep0 hHeld hbN) (fun hHeld => ?_)
        clear hK K
        try simp only [Act.put, List.getElem_toArray, List.getElem_cons_zero, List.getElem_cons_succ, List.setIfInBounds_toArray, List.set_cons_zero, List.set_cons_succ]
        refine wpAnyH_mono (S' := fun w' => Below wf.heap.size wf w') (fun _ hh => bstep0 hHeld hh) _ _ _ _ ?_
        replace hHeld : Below wf.heap.size wf wf := Below.refl _ _
        replace hB9 := bstep0 hB9 hbN
        clear hbN
        refine wpAnyH_take (i := 19) (v := ?_) rfl (by kernel_rfl) (by kernel_rfl) (by kernel_rfl) (fun _ _ _ h => h) (Or.inl ⟨by rfl, ?_⟩) hHeld ?_
        rotate_left
        · (intro w hSw; (try dsimp only at hSw); go_simp <;> rfl)
        simp only [Act.put, List.getElem_toArray, List.getElem_cons_zero, List.getElem_cons_succ, List.setIfInBounds_toArray, List.set_cons_zero, List.set_cons_succ]
        refine wpAnyH_take (i := 20) (v := ?_) rfl (by kernel_rfl) (by kernel_rfl) (by kernel_rfl) (fun _ _ _ h => h) (Or.inl ⟨by rfl, ?_⟩) hHeld ?_
        rotate_left
        · (intro w hSw; (try dsimp only at hSw); go_simp <;> rfl)
        simp only [Act.put, List.getElem_toArray, List.getElem_cons_zero, List.getElem_cons_succ, List.setIfInBounds_toArray, List.set_cons_zero, List.set_cons_succ]
        refine wpAnyH_done (by kernel_rfl) ?_ _
        clear hHeld
        go_wp2_with fail
        go_ret
        exact ⟨rfl, hB9⟩
      · obtain ⟨s1, hs1⟩ : ∃ s : ByteArray, s = ⟨(pageOf (es.take j)).toArray⟩ := ⟨_, rfl⟩
        have hs2 : s1 = ⟨(pageOf (xs.map SE.x)).toArray⟩ := by rw [← hpe.1 rfl]; exact hs1
        have HS1 := Lib.hid hs1
        have HS2 := Lib.hid hs2
        clear hs1 hs2 hpe
        replace hEl := hEl.below (Below.refl _ wr).drew
        replace hEm := hEm.below (Below.refl _ wr).drew
        replace hB9 := hB9.drew
        refine wp_region_held_drew (S := fun w' => Below wr.drew.heap.size wr.drew w') (by kernel_rfl) (Below.refl _ _) (fun hHeld => ?_)
        generalize wr.drew = wa at hEl hEm hB9 hHeld ⊢
        refine wpAnyH_take (i := 0) (v := ?_) rfl (by kernel_rfl) (by kernel_rfl) (by kernel_rfl) (fun _ _ _ h => h) (Or.inl ⟨by rfl, ?_⟩) hHeld ?_
        rotate_left
        · (intro w hSw; (try dsimp only at hSw); go_simp <;> rfl)
        simp only [Act.put, List.getElem_toArray, List.getElem_cons_zero, List.getElem_cons_succ, List.setIfInBounds_toArray, List.set_cons_zero, List.set_cons_succ]
        refine wpAnyH_ready (rs := [1]) (by kernel_rfl) (by simp) ?_
        refine AllReadyH.cons rfl (fun K hK => ?_) AllReadyH.nil
        go_simp
        refine (turns_any A j c (es.take j) wa hEl hk25 hwl).mono ?_
        rintro ex wb ⟨rfl, hbN⟩
        dsimp only
        refine hK.out _ _ (bstep0 hHeld hbN) (fun hHeld => ?_)
        clear hK K
        try simp only [Act.put, List.getElem_toArray, List.getElem_cons_zero, List.getElem_cons_succ, List.setIfInBounds_toArray, List.set_cons_zero, List.set_cons_succ]
        refine wpAnyH_mono (S' := fun w' => Below wb.heap.size wb w') (fun _ hh => bstep0 hHeld hh) _ _ _ _ ?_
        replace hHeld : Below wb.heap.size wb wb := Below.refl _ _
        replace hEl := hEl.below hbN
        replace hEm := hEm.below hbN
        replace hB9 := bstep0 hB9 hbN
        clear hbN
        refine wpAnyH_take (i := 2) (v := ?_) rfl (by kernel_rfl) (by kernel_rfl) (by kernel_rfl) (fun _ _ _ h => h) (Or.inl ⟨by rfl, ?_⟩) hHeld ?_
        rotate_left
        · (intro w hSw; (try dsimp only at hSw); go_simp <;> rfl)
        simp only [Act.put, List.getElem_toArray, List.getElem_cons_zero, List.getElem_cons_succ, List.setIfInBounds_toArray, List.set_cons_zero, List.set_cons_succ]
        refine wpAnyH_take (i := 3) (v := ?_) rfl (by kernel_rfl) (by kernel_rfl) (by kernel_rfl) (fun _ _ _ h => h) (Or.inl ⟨by rfl, ?_⟩) hHeld ?_
        rotate_left
        · (intro w hSw; (try dsimp only at hSw); go_simp <;> rfl)
        simp only [Act.put, List.getElem_toArray, List.getElem_cons_zero, List.getElem_cons_succ, List.setIfInBounds_toArray, List.set_cons_zero, List.set_cons_succ]
        refine wpAnyH_ready (rs := [4]) (by kernel_rfl) (by simp) ?_
        refine AllReadyH.cons rfl (fun K hK => ?_) AllReadyH.nil
        go_simp
        refine (turns_any A' nm c' (xs.map SE.x) wb hEm hnm hwm').mono ?_
        rintro ex wc ⟨rfl, hbN⟩
        dsimp only
        refine hK.out _ _ (bstep0 hHeld hbN) (fun hHeld => ?_)
        clear hK K
        try simp only [Act.put, List.getElem_toArray, List.getElem_cons_zero, List.getElem_cons_succ, List.setIfInBounds_toArray, List.set_cons_zero, List.set_cons_succ]
        refine wpAnyH_mono (S' := fun w' => Below wc.heap.size wc w') (fun _ hh => bstep0 hHeld hh) _ _ _ _ ?_
        replace hHeld : Below wc.heap.size wc wc := Below.refl _ _
        replace hEl := hEl.below hbN
        replace hEm := hEm.below hbN
        replace hB9 := bstep0 hB9 hbN
        clear hbN
        refine wpAnyH_take (i := 5) (v := ?_) rfl (by kernel_rfl) (by kernel_rfl) (by kernel_rfl) (fun _ _ _ h => h) (Or.inl ⟨by rfl, ?_⟩) hHeld ?_
        rotate_left
        · (intro w hSw; (try dsimp only at hSw); go_simp <;> rfl)
        simp only [Act.put, List.getElem_toArray, List.getElem_cons_zero, List.getElem_cons_succ, List.setIfInBounds_toArray, List.set_cons_zero, List.set_cons_succ]
        refine wpAnyH_take (i := 6) (v := ?_) rfl (by kernel_rfl) (by kernel_rfl) (by kernel_rfl) (fun _ _ _ h => h) (Or.inl ⟨by rfl, ?_⟩) hHeld ?_
        rotate_left
        · (intro w hSw; (try dsimp only at hSw); go_simp <;> rfl)
        simp only [Act.put, List.getElem_toArray, List.getElem_cons_zero, List.getElem_cons_succ, List.setIfInBounds_toArray, List.set_cons_zero, List.set_cons_succ]
        refine wpAnyH_take (i := 7) (v := ?_) rfl (by kernel_rfl) (by kernel_rfl) (by kernel_rfl) (fun _ _ _ h => h) (Or.inl ⟨by rfl, ?_⟩) hHeld ?_
        rotate_left
        · (intro w hSw; (try dsimp only at hSw); go_simp <;> rfl)
        simp only [Act.put, List.getElem_toArray, List.getElem_cons_zero, List.getElem_cons_succ, List.setIfInBounds_toArray, List.set_cons_zero, List.set_cons_succ]
        refine wpAnyH_take (i := 10) (v := ?_) rfl (by kernel_rfl) (by kernel_rfl) (by kernel_rfl) (fun _ _ _ h => h) (Or.inl ⟨by rfl, ?_⟩) hHeld ?_
        rotate_left
        · (intro w hSw; (try dsimp only at hSw); go_simp <;> rfl)
        simp only [Act.put, List.getElem_toArray, List.getElem_cons_zero, List.getElem_cons_succ, List.setIfInBounds_toArray, List.set_cons_zero, List.set_cons_succ]
        refine wpAnyH_take (i := 14) (v := ?_) rfl (by kernel_rfl) (by kernel_rfl) (by kernel_rfl) (fun _ _ _ h => h) (Or.inl ⟨by rfl, ?_⟩) hHeld ?_
        rotate_left
        · (intro w hSw; (try dsimp only at hSw); go_simp <;> rfl)
        simp only [Act.put, List.getElem_toArray, List.getElem_cons_zero, List.getElem_cons_succ, List.setIfInBounds_toArray, List.set_cons_zero, List.set_cons_succ]
        refine wpAnyH_ready (rs := [8]) (by kernel_rfl) (by simp) ?_
        refine AllReadyH.cons rfl (fun K hK => ?_) AllReadyH.nil
        go_simp
        refine (page_any A j c (es.take j) wc hEl hk25 hwl).mono ?_
        rintro ex wd ⟨v1, rfl, ho1, hbN⟩
        obtain ⟨P1, m1, c1, rfl, hp1⟩ := own_slice ho1
        clear ho1
        dsimp only
        refine hK.out _ _ (bstep0 hHeld hbN) (fun hHeld => ?_)
        clear hK K
        try simp only [Act.put, List.getElem_toArray, List.getElem_cons_zero, List.getElem_cons_succ, List.setIfInBounds_toArray, List.set_cons_zero, List.set_cons_succ]
        refine wpAnyH_mono (S' := fun w' => Below wd.heap.size wd w') (fun _ hh => bstep0 hHeld hh) _ _ _ _ ?_
        replace hHeld : Below wd.heap.size wd wd := Below.refl _ _
        replace hEm := hEm.below hbN
        replace hB9 := bstep0 hB9 hbN
        clear hbN
        refine wpAnyH_take (i := 9) (v := ?_) rfl (by kernel_rfl) (by kernel_rfl) (by kernel_rfl) (fun _ _ _ h => h) (Or.inl ⟨by rfl, ?_⟩) hHeld ?_
        rotate_left
        · (intro wz hSw; (try dsimp only at hSw); have hcv := str_as' wz (hp1.below hSw) HS1.out; clear hSw; go_simp <;> rfl)
        simp only [Act.put, List.getElem_toArray, List.getElem_cons_zero, List.getElem_cons_succ, List.setIfInBounds_toArray, List.set_cons_zero, List.set_cons_succ]
        clear hp1
        refine wpAnyH_ready (rs := [11]) (by kernel_rfl) (by simp) ?_
        refine AllReadyH.cons rfl (fun K hK => ?_) AllReadyH.nil
        go_simp
        refine (page_any A' nm c' (xs.map SE.x) wd hEm hnm hwm').mono ?_
        rintro ex we ⟨v2, rfl, ho2, hbN⟩
        obtain ⟨P2, m2, c2', rfl, hp2⟩ := own_slice ho2
        clear ho2
        dsimp only
        refine hK.out _ _ (bstep0 hHeld hbN) (fun hHeld => ?_)
        clear hK K
        try simp only [Act.put, List.getElem_toArray, List.getElem_cons_zero, List.getElem_cons_succ, List.setIfInBounds_toArray, List.set_cons_zero, List.set_cons_succ]
        refine wpAnyH_mono (S' := fun w' => Below we.heap.size we w') (fun _ hh => bstep0 hHeld hh) _ _ _ _ ?_
        replace hHeld : Below we.heap.size we we := Below.refl _ _
        replace hB9 := bstep0 hB9 hbN
        clear hbN
        refine wpAnyH_take (i := 12) (v := ?_) rfl (by kernel_rfl) (by kernel_rfl) (by kernel_rfl) (fun _ _ _ h => h) (Or.inl ⟨by rfl, ?_⟩) hHeld ?_
        rotate_left
        · (intro wz hSw; (try dsimp only at hSw); have hcv := str_as' wz (hp2.below hSw) HS2.out; clear hSw; go_simp <;> rfl)
        simp only [Act.put, List.getElem_toArray, List.getElem_cons_zero, List.getElem_cons_succ, List.setIfInBounds_toArray, List.set_cons_zero, List.set_cons_succ]
        clear hp2
        refine wpAnyH_take (i := 13) (v := ?_) rfl (by kernel_rfl) (by kernel_rfl) (by kernel_rfl) (fun _ _ _ h => h) (Or.inl ⟨by rfl, ?_⟩) hHeld ?_
        rotate_left
        · (intro w hSw; (try dsimp only at hSw); go_simp <;> rfl)
        simp only [Act.put, List.getElem_toArray, List.getElem_cons_zero, List.getElem_cons_succ, List.setIfInBounds_toArray, List.set_cons_zero, List.set_cons_succ]
        refine wpAnyH_take (i := 15) (v := ?_) rfl (by kernel_rfl) (by kernel_rfl) (by kernel_rfl) (fun _ _ _ h => h) (Or.inl ⟨by rfl, ?_⟩) hHeld ?_
        rotate_left
        · (intro w hSw; (try dsimp only at hSw); go_simp <;> rfl)
        simp only [Act.put, List.getElem_toArray, List.getElem_cons_zero, List.getElem_cons_succ, List.setIfInBounds_toArray, List.set_cons_zero, List.set_cons_succ]
        refine wpAnyH_take (i := 16) (v := ?_) rfl (by kernel_rfl) (by kernel_rfl) (by kernel_rfl) (fun _ _ _ h => h) (Or.inl ⟨by rfl, ?_⟩) hHeld ?_
        rotate_left
        · (intro w hSw; (try dsimp only at hSw); go_simp <;> rfl)
        simp only [Act.put, List.getElem_toArray, List.getElem_cons_zero, List.getElem_cons_succ, List.setIfInBounds_toArray, List.set_cons_zero, List.set_cons_succ]
        refine wpAnyH_take (i := 17) (v := ?_) rfl (by kernel_rfl) (by kernel_rfl) (by kernel_rfl) (fun _ _ _ h => h) (Or.inl ⟨by rfl, ?_⟩) hHeld ?_
        rotate_left
        · (intro w hSw; (try dsimp only at hSw); go_simp <;> rfl)
        simp only [Act.put, List.getElem_toArray, List.getElem_cons_zero, List.getElem_cons_succ, List.setIfInBounds_toArray, List.set_cons_zero, List.set_cons_succ]
        refine wpAnyH_ready (rs := [18]) (by kernel_rfl) (by simp) ?_
        refine AllReadyH.cons rfl (fun K hK => ?_) AllReadyH.nil
        go_simp
        refine (awake_any we).mono ?_
        rintro ex wf ⟨rfl, hbN⟩
        dsimp only
        refine hK.out _ _ (bstep0 hHeld hbN) (fun hHeld => ?_)
        clear hK K
        try simp only [Act.put, List.getElem_toArray, List.getElem_cons_zero, List.getElem_cons_succ, List.setIfInBounds_toArray, List.set_cons_zero, List.set_cons_succ]
        refine wpAnyH_mono (S' := fun w' => Below wf.heap.size wf w') (fun _ hh => bstep0 hHeld hh) _ _ _ _ ?_
        replace hHeld : Below wf.heap.size wf wf := Below.refl _ _
        replace hB9 := bstep0 hB9 hbN
        clear hbN
        refine wpAnyH_take (i := 19) (v := ?_) rfl (by kernel_rfl) (by kernel_rfl) (by kernel_rfl) (fun _ _ _ h => h) (Or.inl ⟨by rfl, ?_⟩) hHeld ?_
        rotate_left
        · (intro w hSw; (try dsimp only at hSw); go_simp <;> rfl)
        simp only [Act.put, List.getElem_toArray, List.getElem_cons_zero, List.getElem_cons_succ, List.setIfInBounds_toArray, List.set_cons_zero, List.set_cons_succ]
        refine wpAnyH_take (i := 20) (v := ?_) rfl (by kernel_rfl) (by kernel_rfl) (by kernel_rfl) (fun _ _ _ h => h) (Or.inl ⟨by rfl, ?_⟩) hHeld ?_
        rotate_left
        · (intro w hSw; (try dsimp only at hSw); go_simp <;> rfl)
        simp only [Act.put, List.getElem_toArray, List.getElem_cons_zero, List.getElem_cons_succ, List.setIfInBounds_toArray, List.set_cons_zero, List.set_cons_succ]
        refine wpAnyH_done (by kernel_rfl) ?_ _
        clear hHeld
        go_wp2_with fail
        go_ret
        exact ⟨rfl, hB9⟩
end Go.Proofs.Ytdcflgblaljdeaa
