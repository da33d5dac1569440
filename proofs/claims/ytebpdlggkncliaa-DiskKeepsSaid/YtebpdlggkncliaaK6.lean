/-
  What a frame's body is of, and Read.
-/
import Derived.Test.YtebpdlggkncliaaKEvGet
import Derived.Test.YtebpdlggkncliaaK1
import Derived.BigQuiet
import Derived.Lib.ConvBytes
import Derived.Deep.Onto
import Derived.ArgAppend
set_option linter.unusedVariables false
set_option linter.unusedSimpArgs false
namespace Go.Proofs.Ytebpdlggkncliaa
open Go.RowKit
open Go.Lib (byteCells byteCells_length byteCells_append uvarint)

theorem Get_any (A : Option Addr) (n c k : Nat) (l : List UInt8) (p : Ev) (w : World) (h : IsB w A n c l) (hn : n ≤ 1000000) (hk : k ≤ n) :
    Calls Try.prog 42 #[.slice A n c, .int .i64 (k : Int), .agg #[.int .i64 p.th, .int .u8 (p.op : Int), .int .i64 p.obj, .int .i64 p.a, .int .i64 p.b]] w fun e w' => e = .returned (ansE (getEv p l k)) ∧ Below w.heap.size w w' := by
  by_cases hkn : k = n
  · subst hkn
    exact Get_end A k c l p w h.len
  · exact Get_in A n c k l p w h hn (by omega)

theorem infoEv : (Try.prog.info? 70).map (fun i => (i.zero, i.size, i.bytes)) = some (some (.agg #[.int .i64 0, .int .u8 0, .int .i64 0, .int .i64 0, .int .i64 0]), 5, 40) := by kernel_rfl
/-- a list of events that a call put together itself -/
def OwnE (w : World) (base : Nat) (v : Value) (es : List Ev) : Prop := w.ownsRow base 70 5 v es.length (es.flatMap Ev.cells)
theorem OwnE.nil (w : World) (base : Nat) : OwnE w base (.slice none 0 0) [] := World.ownsRow_nil w base _ 5
theorem OwnE.mono {w : World} {base base' : Nat} {v : Value} {es : List Ev} (h : OwnE w base v es) (hb : base' ≤ base) : OwnE w base' v es := by
  refine ⟨h.1, ?_⟩
  rcases h.2 with hn | ⟨g, cap, cur, hv, hbg, hr⟩
  · exact .inl hn
  · exact .inr ⟨g, cap, cur, hv, Nat.le_trans hb hbg, hr⟩
theorem OwnE.below {w w' : World} {base : Nat} {v : Value} {es : List Ev} (h : OwnE w base v es) (hb : Below w.heap.size w w') : OwnE w' base v es := by
  refine ⟨h.1, ?_⟩
  rcases h.2 with hn | ⟨g, cap, cur, hv, hbg, hg, hr⟩
  · exact .inl hn
  · exact .inr ⟨g, cap, cur, hv, hbg, (hb.block g (Array.getElem?_eq_some_iff.1 hg).1).trans hg, hr⟩
/-- the block of a list's own is of events -/
theorem OwnE.type {w : World} {base : Nat} {v : Value} {es : List Ev} (h : OwnE w base v es) {b : Nat} (hb : v.ownBlock = some b) : ∃ cs, w.heap[b]? = some (.cells cs 70 (0, 0)) ∧ base ≤ b := by
  rcases h.2 with ⟨hv, _⟩ | ⟨g, cap, cur, hv, hbg, hg, hr⟩
  · rw [hv] at hb; cases hb
  · rw [hv] at hb
    have e : g = b := by injection hb
    subst e
    exact ⟨cur, hg, hbg⟩
theorem OwnE.away {F : Nat → Prop} {w w' : World} {base : Nat} {v : Value} {es : List Ev} (h : OwnE w base v es) (ha : Away F w w') (hf : ∀ b, v.ownBlock = some b → ¬ F b) : OwnE w' base v es := by
  refine ⟨h.1, ?_⟩
  rcases h.2 with hn | ⟨g, cap, cur, hv, hbg, hg, hr⟩
  · exact .inl hn
  · exact .inr ⟨g, cap, cur, hv, hbg, (ha.block g (Array.getElem?_eq_some_iff.1 hg).1 (hf g (by rw [hv]; rfl))).trans hg, hr⟩
theorem Ev.one (x : Ev) : ∀ u ∈ x.cells, u.oneCell' = true := by
  intro u hu
  simp [Ev.cells] at hu
  rcases hu with rfl | rfl | rfl | rfl | rfl <;> rfl
theorem flatEv : ∀ (xs : List Ev) (j : Nat) (p : Ev), xs[j]? = some p → ∀ f, f < 5 → (xs.flatMap Ev.cells)[j * 5 + f]? = p.cells[f]?
  | [], _, _, h, _, _ => by simp at h
  | x :: r, 0, p, h, f, hf => by
    simp only [List.getElem?_cons_zero, Option.some.injEq] at h
    subst h
    rw [List.flatMap_cons, List.getElem?_append_left (by simp [Ev.cells]; omega), Nat.zero_mul, Nat.zero_add]
  | x :: r, j + 1, p, h, f, hf => by
    rw [List.getElem?_cons_succ] at h
    rw [List.flatMap_cons, List.getElem?_append_right (by simp [Ev.cells]; omega)]
    rw [← flatEv r j p h f hf]
    congr 1
    simp [Ev.cells]; omega
theorem OwnE.is_ {w : World} {base : Nat} {v : Value} {es : List Ev} (h : OwnE w base v es) : ∃ A n c, v = .slice A n c ∧ IsEv w A n c es ∧ n = es.length ∧ c ≤ maxLen := by
  have hrow := h
  rcases h.2 with ⟨hv, hn⟩ | ⟨g, cap, cur, hv, hbg, hg, hnc, hcm, hcs, htake⟩
  · have : es = [] := List.eq_nil_of_length_eq_zero hn
    subst this
    exact ⟨none, 0, 0, hv, IsEv.nil w, rfl, Nat.zero_le _⟩
  · refine ⟨_, _, _, hv, ⟨rfl, hnc, (fun e => by cases e), .inr ⟨g, 0, rfl, fun j x hj f u hu => ?_⟩⟩, rfl, hcm⟩
    subst hv
    have hf5 : f < 5 := (List.getElem?_eq_some_iff.1 hu).1
    have := World.ownsRow.cells (g := g) hrow rfl (j * 5 + f) u ((flatEv es j x hj f hf5).trans hu)
    simpa [Addr.add_lit, Nat.add_assoc] using this
theorem oe_append {w : World} {base : Nat} {A : Option Addr} {n c : Nat} {es : List Ev} (h : OwnE w base (.slice A n c) es) (hb : base ≤ w.heap.size) (ty : TypeId) (x : Ev) {bb : Nat}
    (hc : w.heap[bb]? = some (.cells #[.int .i64 x.th, .int .u8 (x.op : Int), .int .i64 x.obj, .int .i64 x.a, .int .i64 x.b] 70 (0, 0))) (hl : es.length ≤ 100000) :
    ∃ v' w', (Builtin.append_ #[71, 71] ty #[.slice A n c, .slice (some ⟨bb, 0, none⟩) 1 1]).run Try.prog w = .ok v' w' ∧ ∃ A' c', v' = .slice A' (n + 1) c' ∧ OwnE w' base (.slice A' (n + 1) c') (es ++ [x]) ∧
      Away (fun b => (Value.slice A n c).ownBlock = some b) w w' := by
  obtain ⟨i0, h2, h3, h4, h5⟩ := info_parts infoEv
  have hc' : ∀ j u, x.cells[j]? = some u → w.cell? ((⟨bb, 0, none⟩ : Addr).add j) = some u := by
    intro j u hj
    rw [Addr.add_lit, Nat.zero_add, cell_of_row w bb j _ _ _ hc]
    rw [← hj]
    simp [Ev.cells]
  have hn : n = es.length := by
    rcases h.2 with ⟨hv, hn⟩ | ⟨g, cap, cur, hv, _⟩
    · simp only [Value.slice.injEq] at hv; omega
    · simp only [Value.slice.injEq] at hv; omega
  obtain ⟨v', w', hr, hown, hgr, _, hat⟩ := run_append_own_at (P := Try.prog) (w := w) base 71 ty 70 i0 (.agg #[.int .i64 0, .int .u8 0, .int .i64 0, .int .i64 0, .int .i64 0]) 5 40 Try.underlying71 h2 h3 h4 h5 rfl (by decide) (.slice A n c) es.length (es.flatMap Ev.cells) h ⟨bb, 0, none⟩ 1 1 x.cells rfl
    hc' (Ev.one x) (by unfold maxLen; omega) (by omega) hb
  have hown2 := hown
  rcases hown2.2 with ⟨_, hn'⟩ | ⟨g, cap, cur, rfl, _, _, _⟩
  · omega
  refine ⟨_, w', hr, _, cap, by rw [hn], ?_, ?_⟩
  · unfold OwnE
    rw [List.flatMap_append, List.length_append, hn]
    simpa using hown
  · exact (Away.of_grown hgr)
end Go.Proofs.Ytebpdlggkncliaa

/-
  events: what a frame's body is of.
-/
set_option linter.unusedVariables false
set_option linter.unusedSimpArgs false
namespace Go.Proofs.Ytebpdlggkncliaa
open Go.RowKit
open Go.Lib (byteCells byteCells_length byteCells_append uvarint)

theorem getEv_le {p : Ev} {l : List UInt8} {k : Nat} (h : (getEv p l k).2.2 = 0) (hk : k ≤ l.length) : (getEv p l k).2.1 ≤ l.length := by
  obtain ⟨_, r, hd, hn⟩ := getEv_sound h
  have := congrArg List.length hd
  rw [List.length_drop, List.length_append] at this
  omega
/-- what events answers -/
def EventsSay (m : List UInt8) (base : Nat) (e : Ending) (w' : World) : Prop :=
  (∃ es v, evsOf m = some es ∧ e = .returned (.tuple #[v, .bool true]) ∧ OwnE w' base v es) ∨ (evsOf m = none ∧ e = .returned (.tuple #[.slice none 0 0, .bool false]))
set_option maxRecDepth 100000 in
set_option maxHeartbeats 2000000 in
theorem events_any (A : Option Addr) (n c : Nat) (m : List UInt8) (w : World) (h : IsB w A n c m) (hn : n ≤ 1000000) :
    Calls Try.prog 100 #[.slice A n c] w fun e w' => EventsSay m w.heap.size e w' ∧ Below w.heap.size w w' := by
  have hG := getUint_any A n c 0 m w h (by omega) (by omega)
  rw [List.drop_zero] at hG
  have hlt := getU_lt m
  have hle := getU_le m
  rw [h.len] at hle
  have HEV : Hid (evsOf m = if (getU m).2.2 ≠ 0 ∨ (getU m).1 = 0 ∨ 4096 < (getU m).1 then none else match readEvs (getU m).1 Ev.zero m (getU m).2.1 with
    | some r => if r.2 = m.length then some r.1 else none
    | none => none) := rfl
  unfold ansU nextU at hG
  rw [Nat.zero_add] at hG
  generalize getU m = q at hG hlt hle HEV
  obtain ⟨N, j0, f⟩ := q
  dsimp only at hG hlt hle HEV
  have HG := Lib.hid hG
  have HLE := Lib.hid hle
  clear hG hle
  by_cases hbad : f ≠ 0 ∨ N = 0 ∨ 4096 < N
  · have hev : evsOf m = none := by rw [HEV.out, if_pos hbad]
    have hfin : EventsSay m w.heap.size (.returned (.tuple #[.slice none 0 0, .bool false])) w := .inr ⟨hev, rfl⟩
    have HF := Lib.hid hfin
    clear hev HEV hfin h
    by_cases h1 : f = 0
    · have d1 : ((f : Int) != 0) = false := by simp; omega
      by_cases h2 : N = 0
      · have d2 : ((N : Int) == 0) = true := by simp; omega
        clear hbad
        go_enter Try.func100, Try.ntmps100
        go_wp2_with fail
        refine HG.out.mono ?_
        rintro e w' ⟨rfl, rfl⟩
        go_wp2_with fail
        go_ret2
        exact ⟨HF.out, Below.refl _ _⟩
      · have d2 : ((N : Int) == 0) = false := by simp; omega
        have d3 : decide ((4096 : Int) < (N : Int)) = true := by simp; omega
        clear hbad
        go_enter Try.func100, Try.ntmps100
        go_wp2_with fail
        refine HG.out.mono ?_
        rintro e w' ⟨rfl, rfl⟩
        go_wp2_with fail
        go_ret2
        exact ⟨HF.out, Below.refl _ _⟩
    · have d1 : ((f : Int) != 0) = true := by simp; omega
      clear hbad
      go_enter Try.func100, Try.ntmps100
      go_wp2_with fail
      refine HG.out.mono ?_
      rintro e w' ⟨rfl, rfl⟩
      go_wp2_with fail
      go_ret2
      exact ⟨HF.out, Below.refl _ _⟩
  · obtain rfl : f = 0 := by omega
    have hev : evsOf m = match readEvs N Ev.zero m j0 with
      | some r => if r.2 = m.length then some r.1 else none
      | none => none := by rw [HEV.out, if_neg hbad]
    have HE := Lib.hid hev
    have d2 : ((N : Int) == 0) = false := by simp; omega
    have d3 : decide ((4096 : Int) < (N : Int)) = false := by simp; omega
    have hN1 : N ≤ 4096 := by omega
    have hj0 : j0 ≤ n := HLE.out rfl
    have HL := Lib.hid h.len
    rw [if_pos rfl] at HG
    clear HLE hev HEV hbad
    go_enter Try.func100, Try.ntmps100
    go_wp2_with fail
    refine HG.out.mono ?_
    rintro e w' ⟨rfl, rfl⟩
    clear HG
    go_wp2_with fail
    have hab : (w.alloc (.cells #[.int .i64 0, .int .u8 0, .int .i64 0, .int .i64 0, .int .i64 0] 70)).heap[w.heap.size]? = some (.cells #[.int .i64 0, .int .u8 0, .int .i64 0, .int .i64 0, .int .i64 0] 70 (0, 0)) := heap_alloc_new _ _
    have hb2 : Below w.heap.size w (w.alloc (.cells #[.int .i64 0, .int .u8 0, .int .i64 0, .int .i64 0, .int .i64 0] 70)) := (Below.refl _ _).alloc (Nat.le_refl _) _
    go_loopw [5, 6, 7, 26] (fun a g v q wr => ∃ (j k : Nat) (acc : List Ev) (p : Ev), q = .int .u64 (j : Int) ∧ j ≤ N ∧ a = .int .i64 (k : Int) ∧ k ≤ n ∧ g = .int .i64 0 ∧ acc.length = j ∧ OwnE wr (w.heap.size + 1) v acc ∧
      Hid (readEvs N Ev.zero m j0 = (readEvs (N - j) p m k).map fun r => (acc ++ r.1, r.2)) ∧
      wr.heap[w.heap.size]? = some (.cells #[.int .i64 p.th, .int .u8 (p.op : Int), .int .i64 p.obj, .int .i64 p.a, .int .i64 p.b] 70 (0, 0)) ∧ Below w.heap.size w wr) (fun _ _ _ q _ => N - (intOf q).toNat)
    case atStart =>
      refine ⟨0, j0, [], Ev.zero, rfl, by omega, rfl, hj0, rfl, rfl, OwnE.nil _ _, ?_, hab, hb2⟩
      show _ = _
      rw [Nat.sub_zero]
      cases readEvs N Ev.zero m j0 <;> simp
    case round =>
      clear hab hb2 hj0
      obtain ⟨j, k, acc, p, rfl, hj, rfl, hk, rfl, hacc, hO, hR, hab, hB⟩ := hrel
      obtain ⟨A', n', c', rfl, _, hn', _⟩ := hO.is_
      have hn'' : n' = j := hn'.trans hacc
      clear hn'
      subst n'
      have HACC := Lib.hid hacc
      clear hacc
      by_cases hjN : j < N
      · have hd : decide ((j : Int) < (N : Int)) = true := decide_eq_true (by omega)
        have a0 : wr.cell? ⟨w.heap.size, 0, none⟩ = some (.int .i64 p.th) := cell_of_row _ _ 0 _ _ _ hab
        have a1 : wr.cell? ⟨w.heap.size, 1, none⟩ = some (.int .u8 (p.op : Int)) := cell_of_row _ _ 1 _ _ _ hab
        have a2 : wr.cell? ⟨w.heap.size, 2, none⟩ = some (.int .i64 p.obj) := cell_of_row _ _ 2 _ _ _ hab
        have a3 : wr.cell? ⟨w.heap.size, 3, none⟩ = some (.int .i64 p.a) := cell_of_row _ _ 3 _ _ _ hab
        have a4 : wr.cell? ⟨w.heap.size, 4, none⟩ = some (.int .i64 p.b) := cell_of_row _ _ 4 _ _ _ hab
        have HAB := Lib.hid hab
        have hla := (Array.getElem?_eq_some_iff.1 hab).1
        have HGE := Lib.hid (Get_any A n c k m p wr (h.below hB) hn hk)
        have hR' : Hid (readEvs N Ev.zero m j0 = (if (getEv p m k).2.2 = 0 then (readEvs (N - (j + 1)) (getEv p m k).1 m (getEv p m k).2.1).map fun r => ((getEv p m k).1 :: r.1, r.2) else none).map fun r => (acc ++ r.1, r.2)) := by
          show _ = _
          rw [hR.out, show N - j = (N - (j + 1)) + 1 by omega]
          rfl
        have hgl := getEv_le (p := p) (l := m) (k := k)
        rw [h.len] at hgl
        unfold ansE at HGE
        generalize getEv p m k = q at HGE hR' hgl
        obtain ⟨x, k', f⟩ := q
        dsimp only at HGE hR' hgl
        have HGL := Lib.hid hgl
        clear hR hab hgl h
        go_wp2_with fail
        refine HGE.out.mono ?_
        rintro e w3 ⟨rfl, hb3⟩
        have hab3 := (hb3.block _ hla).trans HAB.out
        have z0 : w3.cell? ⟨w.heap.size, 0, none⟩ = some (.int .i64 p.th) := cell_of_row _ _ 0 _ _ _ hab3
        have z1 : w3.cell? ⟨w.heap.size, 1, none⟩ = some (.int .u8 (p.op : Int)) := cell_of_row _ _ 1 _ _ _ hab3
        have z2 : w3.cell? ⟨w.heap.size, 2, none⟩ = some (.int .i64 p.obj) := cell_of_row _ _ 2 _ _ _ hab3
        have z3 : w3.cell? ⟨w.heap.size, 3, none⟩ = some (.int .i64 p.a) := cell_of_row _ _ 3 _ _ _ hab3
        have z4 : w3.cell? ⟨w.heap.size, 4, none⟩ = some (.int .i64 p.b) := cell_of_row _ _ 4 _ _ _ hab3
        have zf0 := free_of_row hab3 0
        have zf1 := free_of_row hab3 1
        have zf2 := free_of_row hab3 2
        have zf3 := free_of_row hab3 3
        have zf4 := free_of_row hab3 4
        obtain ⟨hs5, hA5⟩ := set5 hab3 (.int .i64 x.th) (.int .u8 (x.op : Int)) (.int .i64 x.obj) (.int .i64 x.a) (.int .i64 x.b)
        have hO3 := hO.below hb3
        have hB3 := hB.trans (hb3.mono hB.size)
        have hO5 := hO3.away hA5 fun b hb e => by have := (hO3.type hb).choose_spec.2; omega
        have hB5 := hB3.trans (hA5.below (B := w.heap.size) hB3.size fun b hb => by omega)
        have HS5 := Lib.hid hs5
        clear a0 a1 a2 a3 a4 HGE hO hB hb3 hab3 hs5 hA5 hO3 hB3
        by_cases hf : f = 0
        · subst hf
          rw [if_pos rfl] at hR'
          have hk' := HGL.out rfl (by have := HL.out; omega)
          clear HGL
          have hx0 : ((((((w3.setCell ⟨w.heap.size, 0, none⟩ (.int .i64 x.th)).setCell ⟨w.heap.size, 1, none⟩ (.int .u8 (x.op : Int))).setCell ⟨w.heap.size, 2, none⟩ (.int .i64 x.obj)).setCell ⟨w.heap.size, 3, none⟩ (.int .i64 x.a)).setCell ⟨w.heap.size, 4, none⟩ (.int .i64 x.b)).alloc (.cells #[.int .i64 x.th, .int .u8 (x.op : Int), .int .i64 x.obj, .int .i64 x.a, .int .i64 x.b] 70)).heap[w3.heap.size]? = some (.cells #[.int .i64 x.th, .int .u8 (x.op : Int), .int .i64 x.obj, .int .i64 x.a, .int .i64 x.b] 70 (0, 0)) := by
            have := heap_alloc_new (((((w3.setCell ⟨w.heap.size, 0, none⟩ (.int .i64 x.th)).setCell ⟨w.heap.size, 1, none⟩ (.int .u8 (x.op : Int))).setCell ⟨w.heap.size, 2, none⟩ (.int .i64 x.obj)).setCell ⟨w.heap.size, 3, none⟩ (.int .i64 x.a)).setCell ⟨w.heap.size, 4, none⟩ (.int .i64 x.b)) (.cells #[.int .i64 x.th, .int .u8 (x.op : Int), .int .i64 x.obj, .int .i64 x.a, .int .i64 x.b] 70)
            simpa using this
          have hbx : Below (((((w3.setCell ⟨w.heap.size, 0, none⟩ (.int .i64 x.th)).setCell ⟨w.heap.size, 1, none⟩ (.int .u8 (x.op : Int))).setCell ⟨w.heap.size, 2, none⟩ (.int .i64 x.obj)).setCell ⟨w.heap.size, 3, none⟩ (.int .i64 x.a)).setCell ⟨w.heap.size, 4, none⟩ (.int .i64 x.b)).heap.size (((((w3.setCell ⟨w.heap.size, 0, none⟩ (.int .i64 x.th)).setCell ⟨w.heap.size, 1, none⟩ (.int .u8 (x.op : Int))).setCell ⟨w.heap.size, 2, none⟩ (.int .i64 x.obj)).setCell ⟨w.heap.size, 3, none⟩ (.int .i64 x.a)).setCell ⟨w.heap.size, 4, none⟩ (.int .i64 x.b)) ((((((w3.setCell ⟨w.heap.size, 0, none⟩ (.int .i64 x.th)).setCell ⟨w.heap.size, 1, none⟩ (.int .u8 (x.op : Int))).setCell ⟨w.heap.size, 2, none⟩ (.int .i64 x.obj)).setCell ⟨w.heap.size, 3, none⟩ (.int .i64 x.a)).setCell ⟨w.heap.size, 4, none⟩ (.int .i64 x.b)).alloc (.cells #[.int .i64 x.th, .int .u8 (x.op : Int), .int .i64 x.obj, .int .i64 x.a, .int .i64 x.b] 70)) := (Below.refl _ _).alloc (Nat.le_refl _) _
          have hzw := hB5.size
          obtain ⟨v', w6, hr, A2, c2, rfl, hO6, hA6⟩ := oe_append (hO5.below hbx) (by have := hB5.size; simp at this ⊢; omega) 71 x hx0 (by rw [HACC.out]; omega)
          have hab6 := (hA6.block w.heap.size (by simp; have := hB5.size; simp at this; omega) (fun e => by have := (hO5.type e).choose_spec.2; omega)).trans ((hbx.block _ (by have := (Array.getElem?_eq_some_iff.1 HS5.out).1; exact this)).trans HS5.out)
          have hB6 := (hB5.trans (hbx.mono hzw)).trans (hA6.below (B := w.heap.size) (by have := hbx.size; exact Nat.le_trans hzw this) fun b e => by have := (hO5.type e).choose_spec.2; omega)
          have hR6 : Hid (readEvs N Ev.zero m j0 = (readEvs (N - (j + 1)) x m k').map fun r => ((acc ++ [x]) ++ r.1, r.2)) := by
            show _ = _
            rw [hR'.out]
            cases readEvs (N - (j + 1)) x m k' <;> simp
          clear hbx hzw hR' hB5 hO5
          go_wp2_with (at_builtin; refine wpList_run _ rfl (.tmp 38) (.tmp 40) 71 rfl (R := fun v' w' => v' = .slice A2 (j + 1) c2 ∧ w' = w6) ⟨_, _, hr, rfl, rfl⟩ ?_; rintro v' w' ⟨rfl, rfl⟩)
          clear z0 z1 z2 z3 z4 zf0 zf1 zf2 zf3 zf4 hx0 hr
          go_roundw
          case rel => exact ⟨j + 1, k', acc ++ [x], x, by go_num, by omega, rfl, hk', rfl, by simp [HACC.out], hO6, hR6, hab6, hB6⟩
          case measure => simp [intOf]; omega
        · have hdf : ((f : Int) != 0) = true := by simp; omega
          have hfin : evsOf m = none := by
            rw [HE.out, hR'.out, if_neg hf]
            rfl
          clear hR' HE
          go_wp2_with fail
          go_ret2
          exact ⟨.inr ⟨hfin, rfl⟩, hB5⟩
      · obtain rfl : j = N := by omega
        have hd : decide ((j : Int) < (j : Int)) = false := by simp
        have hev : evsOf m = if k = m.length then some acc else none := by
          rw [HE.out, hR.out, Nat.sub_self]
          simp [readEvs]
        rw [HL.out] at hev
        have HV := Lib.hid hev
        have hO' := hO.mono (base' := w.heap.size) (by omega)
        clear hev h hR hab HE hO
        by_cases hkn : k = n
        · have hd2 : ((k : Int) != (n : Int)) = false := by simp; omega
          go_wp2_with fail
          go_ret2
          exact ⟨.inl ⟨acc, _, by rw [HV.out, if_pos hkn], rfl, hO'⟩, hB⟩
        · have hd2 : ((k : Int) != (n : Int)) = true := by simp; omega
          go_wp2_with fail
          go_ret2
          exact ⟨.inr ⟨by rw [HV.out, if_neg hkn], rfl⟩, hB⟩
end Go.Proofs.Ytebpdlggkncliaa

/-
  Read: the events of the frame at a place.
-/
set_option linter.unusedVariables false
set_option linter.unusedSimpArgs false
namespace Go.Proofs.Ytebpdlggkncliaa
open Go.RowKit
open Go.Lib (byteCells byteCells_length byteCells_append uvarint)

/-- Read's answers behind the frame's number: a, the body's place nx, the number's error f -/
def rdFrom (l : List UInt8) (nx a f : Nat) : List Ev × Nat × Nat :=
  if f ≠ 0 then ([], 0, f) else if 262144 < a then ([], 0, 3) else if l.length < nx + a + 4 then ([], 0, 11)
  else if (l.drop (nx + a)).take 4 ≠ sumBytes (crc ((l.drop nx).take a)) then ([], 0, 12)
  else match evsOf ((l.drop nx).take a) with
    | none => ([], 0, 10)
    | some es => (es, nx + a + 4, 0)
theorem rdFrame_from (l : List UInt8) (k : Nat) : rdFrame l k = rdFrom l (k + (getU (l.drop k)).2.1) (getU (l.drop k)).1 (getU (l.drop k)).2.2 := rfl
theorem rdFrom_err (l : List UInt8) (nx nx' a : Nat) {f : Nat} (hf : f ≠ 0) : rdFrom l nx a f = rdFrom l nx' a f := by
  unfold rdFrom
  rw [if_pos hf, if_pos hf]
def ReadSays (r : List Ev × Nat × Nat) (base : Nat) (e : Ending) (w' : World) : Prop :=
  ∃ v, e = .returned (.tuple #[v, .int .i64 (r.2.1 : Int), .int .i64 (r.2.2 : Int)]) ∧ OwnE w' base v r.1
theorem readSays_none {w' : World} {base f : Nat} : ReadSays ([], 0, f) base (.returned (.tuple #[.slice none 0 0, .int .i64 0, .int .i64 (f : Int)])) w' :=
  ⟨_, rfl, OwnE.nil _ _⟩

set_option maxRecDepth 100000 in
set_option maxHeartbeats 1000000 in
theorem Read_from (A : Option Addr) (n c : Nat) (kk : Int) (l : List UInt8) (a nx f : Nat) (w : World) (h : IsB w A n c l) (hn : n ≤ 1000000) (ha : a < 18446744073709551616) (hnx : nx ≤ n)
    (hU : Calls Try.prog 98 #[.slice A n c, .int .i64 kk] w fun e' w' => e' = .returned (.tuple #[.int .u64 (a : Int), .int .i64 (nx : Int), .int .i64 (f : Int)]) ∧ w = w') :
    Calls Try.prog 46 #[.slice A n c, .int .i64 kk] w fun e w' => ReadSays (rdFrom l nx a f) w.heap.size e w' ∧ Below w.heap.size w w' := by
  have HU := Lib.hid hU
  have HL := Lib.hid h.len
  clear hU
  by_cases hf : f = 0
  · subst hf
    have d1 : (((0 : Nat) : Int) != 0) = false := by simp
    by_cases hbig : 262144 < a
    · have d2 : decide ((262144 : Int) < (a : Int)) = true := by simp; omega
      have hr : rdFrom l nx a 0 = ([], 0, 3) := by unfold rdFrom; rw [if_neg (by simp), if_pos hbig]
      rw [hr]
      clear h hr hbig
      go_enter Try.func46, Try.ntmps46
      go_wp2_with fail
      refine HU.out.mono ?_
      rintro e w' ⟨rfl, rfl⟩
      go_wp2_with fail
      go_ret3
      exact ⟨readSays_none, Below.refl _ _⟩
    · have d2 : decide ((262144 : Int) < (a : Int)) = false := by simp; omega
      have e1 : IntKind.i64.wrap (a : Int) = (a : Int) := by rw [IntKind.wrap_i64]; omega
      have wa1 : wrap64 ((nx : Int) + (a : Int)) = (nx : Int) + (a : Int) := by unfold wrap64; omega
      have wa2 : wrap64 ((nx : Int) + (a : Int) + 4) = (nx : Int) + (a : Int) + 4 := by unfold wrap64; omega
      by_cases hsh : n < nx + a + 4
      · have d3 : decide ((n : Int) < (nx : Int) + (a : Int) + 4) = true := by simp; omega
        have hr : rdFrom l nx a 0 = ([], 0, 11) := by unfold rdFrom; rw [if_neg (by simp), if_neg hbig, if_pos (by rw [HL.out]; omega)]
        rw [hr]
        clear h hr hsh
        go_enter Try.func46, Try.ntmps46
        go_wp2_with fail
        refine HU.out.mono ?_
        rintro e w' ⟨rfl, rfl⟩
        go_wp2_with fail
        go_ret3
        exact ⟨readSays_none, Below.refl _ _⟩
      · have d3 : decide ((n : Int) < (nx : Int) + (a : Int) + 4) = false := by simp; omega
        have hcut := h.cut (i := nx) (m := a + 4) (by omega)
        have hrun := run_cut w A n c nx (nx + a + 4) (by omega) (by have := h.cap; omega)
        rw [show nx + a + 4 - nx = a + 4 by omega] at hrun
        generalize (if c = nx then A else A.map (·.add nx)) = A' at hcut hrun
        generalize c - nx = c' at hcut hrun
        have hpush : (((nx + a + 4 : Nat)) : Int) = (nx : Int) + (a : Int) + 4 := by omega
        rw [hpush] at hrun
        have hsplit : (l.drop nx).take (a + 4) = (l.drop nx).take a ++ (l.drop (nx + a)).take 4 := by
          rw [List.take_add, List.drop_drop]
        have hlen4 : ((l.drop (nx + a)).take 4).length = 4 := by rw [List.length_take, List.length_drop, HL.out]; omega
        have hlena : ((l.drop nx).take a).length = a := by rw [List.length_take, List.length_drop, HL.out]; omega
        have hr : rdFrom l nx a 0 = if (l.drop (nx + a)).take 4 ≠ sumBytes (crc ((l.drop nx).take a)) then ([], 0, 12) else match evsOf ((l.drop nx).take a) with
            | none => ([], 0, 10)
            | some es => (es, nx + a + 4, 0) := by
          conv => lhs; unfold rdFrom; rw [if_neg (by simp), if_neg hbig, if_neg (by rw [HL.out]; omega)]
        rw [hsplit] at hcut
        generalize (l.drop nx).take a = body at hr hcut hlena
        generalize (l.drop (nx + a)).take 4 = tl at hr hcut hlen4
        have HR := Lib.hid hr
        have HLA := Lib.hid hlena
        have HA : Hid (a ≤ 262144) := by show _ ≤ _; omega
        have HUN := Lib.hid (unseal_any A' (a + 4) c' (body ++ tl) w hcut (by omega))
        clear h hr hsh hpush hsplit hcut hbig
        go_enter Try.func46, Try.ntmps46
        go_wp2_with fail
        refine HU.out.mono ?_
        rintro e w' ⟨rfl, rfl⟩
        go_wp2_with fail
        refine HUN.out.mono ?_
        rintro e w2 ⟨hO, hb2⟩
        clear HUN hrun
        rcases hO with ⟨body', v, heq, rfl, hown⟩ | ⟨hno, rfl⟩
        · have hbb : body' = body ∧ tl = sumBytes (crc body) := by
            unfold sealed at heq
            have hl4 := congrArg List.length heq
            rw [List.length_append, List.length_append, sumBytes_length, hlen4] at hl4
            have := List.append_inj heq (by omega)
            exact ⟨this.1.symm, by rw [this.2, this.1]⟩
          obtain ⟨rfl, htl⟩ := hbb
          obtain ⟨Ab, nb, cb, rfl, hIb⟩ := own_slice hown
          have hnb := hIb.len
          have hHR : Hid (rdFrom l nx a 0 = match evsOf body' with
            | none => ([], 0, 10)
            | some es => (es, nx + a + 4, 0)) := by
            show _ = _
            rw [HR.out, if_neg (by rw [htl]; simp)]
          have hHE := Lib.hid (events_any Ab nb cb body' w2 hIb (by rw [← hnb, HLA.out]; have := HA.out; omega))
          have hz2 := hb2.size
          clear heq hown hIb HR htl
          go_wp2_with fail
          refine hHE.out.mono ?_
          rintro e w3 ⟨hev, hb3⟩
          have hB3 := bstep0 hb2 hb3
          rcases hev with ⟨es, v, hes, rfl, hOE⟩ | ⟨hes, rfl⟩
          · rw [hes] at hHR
            clear hes hHE
            have hOE' := hOE.mono (base' := w.heap.size) hz2
            clear hOE
            go_wp2_with fail
            refine bodyPost_ret (v := .tuple #[v, .int .i64 ((nx : Int) + (a : Int) + 4), .int .i64 0]) (by simp [results, Try.results46, go_sem]) rfl ⟨?_, hB3⟩
            rw [hHR.out]
            exact ⟨v, by simp, hOE'⟩
          · rw [hes] at hHR
            clear hes hHE
            go_wp2_with fail
            go_ret3
            exact ⟨by rw [hHR.out]; exact readSays_none, hB3⟩
        · have hne : (body ++ tl).length < 4 ↔ False := by rw [List.length_append, hlen4]; simp
          have hx : (if (body ++ tl).length < 4 then (11 : Nat) else 12) = 12 := if_neg (by rw [List.length_append]; omega)
          have hHR : rdFrom l nx a 0 = ([], 0, 12) := by
            rw [HR.out, if_pos]
            intro htl
            exact hno body (by unfold sealed; rw [htl])
          have hHR' := Lib.hid hHR
          have hx' : (if (body ++ tl).length < 4 then (11 : Int) else 12) = 12 := if_neg (by rw [List.length_append]; omega)
          rw [hx']
          clear hne hno hHR HR hx hx'
          go_wp2_with fail
          go_ret3
          exact ⟨by rw [hHR'.out]; exact readSays_none, hb2⟩
  · have d1 : ((f : Int) != 0) = true := by simp; omega
    have hr : rdFrom l nx a f = ([], 0, f) := by unfold rdFrom; rw [if_pos hf]
    rw [hr]
    clear h hr hf
    go_enter Try.func46, Try.ntmps46
    go_wp2_with fail
    refine HU.out.mono ?_
    rintro e w' ⟨rfl, rfl⟩
    go_wp2_with fail
    go_ret3
    exact ⟨readSays_none, Below.refl _ _⟩
theorem Read_any (A : Option Addr) (n c k : Nat) (l : List UInt8) (w : World) (h : IsB w A n c l) (hn : n ≤ 1000000) (hk : k ≤ n) :
    Calls Try.prog 46 #[.slice A n c, .int .i64 (k : Int)] w fun e w' => ReadSays (rdFrame l k) w.heap.size e w' ∧ Below w.heap.size w w' := by
  have hU := getUint_any A n c k l w h (by omega) hk
  have hle := getU_le (l.drop k)
  rw [List.length_drop, h.len] at hle
  have hnx : nextU k (getU (l.drop k)) ≤ n := by
    unfold nextU
    split
    · rename_i h0
      have := hle h0
      omega
    · omega
  have := Read_from A n c k l _ _ _ w h hn (getU_lt (l.drop k)) hnx hU
  rw [rdFrame_from]
  by_cases h0 : (getU (l.drop k)).2.2 = 0
  · unfold nextU at this
    rw [if_pos h0] at this
    exact this
  · rw [rdFrom_err l (k + (getU (l.drop k)).2.1) (nextU k (getU (l.drop k))) _ h0]
    exact this
theorem Read_out (A : Option Addr) (n c : Nat) (k : Int) (l : List UInt8) (w : World) (h : IsB w A n c l) (hn : n ≤ 1000000) (hk : k < 0 ∨ (n : Int) < k) :
    Calls Try.prog 46 #[.slice A n c, .int .i64 k] w fun e w' => ReadSays ([], 0, 2) w.heap.size e w' ∧ Below w.heap.size w w' := by
  have := Read_from A n c k l 0 0 2 w h hn (by decide) (by omega) (by simpa [ansU, nextU] using getUint_out A n c k w hk)
  exact this
end Go.Proofs.Ytebpdlggkncliaa

/-
  Lists of events, held against one another and copied.
-/
set_option linter.unusedVariables false
set_option linter.unusedSimpArgs false
namespace Go.Proofs.Ytebpdlggkncliaa
open Go.RowKit
open Go.Lib (byteCells byteCells_length byteCells_append uvarint)

/-- the place that Pick chooses -/
def pickOf (x : Int) (n : Nat) : Nat := if n < 2 then 0 else (x % (n : Int)).toNat
theorem pickOf_lt (x : Int) {n : Nat} (h : 0 < n) : pickOf x n < n := by
  unfold pickOf
  split
  · omega
  · have := Int.emod_lt_of_pos x (show (0 : Int) < (n : Int) by omega)
    have := Int.emod_nonneg x (show (n : Int) ≠ 0 by omega)
    omega
theorem below_drewN {B : Nat} {w w1 : World} (h : Below B w w1) (k : Nat) : Below B w (w1.drewN k) := ⟨h.os, h.tape, h.output, h.size, h.block⟩
theorem Ev.eq_iff (x y : Ev) : (x.th = y.th ∧ x.op = y.op ∧ x.obj = y.obj ∧ x.a = y.a ∧ x.b = y.b) ↔ x = y := by
  cases x; cases y; simp
instance : DecidableEq Ev := fun x y => decidable_of_iff _ (Ev.eq_iff x y)

theorem run_eqEv (x y : Ev) (w : World) :
    (Op.equalIn 10000 70 (.agg #[.int .i64 x.th, .int .u8 (x.op : Int), .int .i64 x.obj, .int .i64 x.a, .int .i64 x.b]) (.agg #[.int .i64 y.th, .int .u8 (y.op : Int), .int .i64 y.obj, .int .i64 y.a, .int .i64 y.b])).run Try.prog w =
      .ok (decide (x = y)) w := by
  have : decide (x = y) = (decide (x.th = y.th) && (decide (x.op = y.op) && (decide (x.obj = y.obj) && (decide (x.a = y.a) && decide (x.b = y.b))))) := by
    rw [Bool.eq_iff_iff]
    simp [← Ev.eq_iff]
  rw [this]
  go_simp
  by_cases h1 : x.th = y.th <;> by_cases h2 : x.op = y.op <;> by_cases h3 : x.obj = y.obj <;> by_cases h4 : x.a = y.a <;> by_cases h5 : x.b = y.b <;> simp [h1, h2, h3, h4, h5, Int.natCast_inj]

theorem take_snocE {es : List Ev} {j : Nat} {x : Ev} (hx : es[j]? = some x) : es.take (j + 1) = es.take j ++ [x] := take_snoc hx
set_option maxRecDepth 100000 in
set_option maxHeartbeats 1000000 in
theorem sameev_any {w : World} {A : Option Addr} {n c : Nat} {l : List Ev} {B : Option Addr} {m d : Nat} {k : List Ev} (h1 : IsEv w A n c l) (h2 : IsEv w B m d k) (hn : n ≤ 1000000) (hm : m ≤ 1000000) :
    Calls Try.prog 48 #[.slice A n c, .slice B m d] w fun e w' => e = .returned (.bool (decide (l = k))) ∧ Below w.heap.size w w' := by
  have HL1 := Lib.hid h1.len
  have HL2 := Lib.hid h2.len
  by_cases hnm : n = m
  · subst hnm
    have hd0 : ((n : Int) != (n : Int)) = false := by simp
    go_enter Try.func48, Try.ntmps48
    go_wp2_with fail
    go_loopw [5] (fun q wr => ∃ i : Nat, q = .int .i64 (i : Int) ∧ i ≤ n ∧ Hid (l.take i = k.take i) ∧ IsEv wr A n c l ∧ IsEv wr B n d k ∧ Below w.heap.size w wr) (fun q _ => n - (intOf q).toNat)
    case atStart => exact ⟨0, rfl, by omega, by show _ = _; simp, h1, h2, Below.refl _ _⟩
    case round =>
      clear h1 h2
      obtain ⟨i, rfl, hin, ht, h1, h2, hB⟩ := hrel
      by_cases a1 : i < n
      · obtain ⟨b, o, x, rfl, hx, x0, x1, x2, x3, x4⟩ := h1.at_ a1
        obtain ⟨b', o', y, rfl, hy, y0, y1, y2, y3, y4⟩ := h2.at_ a1
        have hcap1 := h1.cap
        have hcap2 := h2.cap
        obtain ⟨r, hr, he⟩ : ∃ r : Bool, (r = decide (x = y)) ∧ ∀ W : World, (Op.equalIn 10000 70 (.agg #[.int .i64 x.th, .int .u8 (x.op : Int), .int .i64 x.obj, .int .i64 x.a, .int .i64 x.b]) (.agg #[.int .i64 y.th, .int .u8 (y.op : Int), .int .i64 y.obj, .int .i64 y.a, .int .i64 y.b])).run Try.prog W = .ok r W :=
          ⟨_, rfl, fun W => run_eqEv x y W⟩
        have hd : decide ((i : Int) < (n : Int)) = true := decide_eq_true (by omega)
        have q0 : (0 : Int) ≤ (i : Int) := by omega
        have q1 : (i : Int) < (n : Int) := by omega
        have HR := Lib.hid hr
        have HX := Lib.hid hx
        have HY := Lib.hid hy
        have H1 := Lib.hid h1
        have H2 := Lib.hid h2
        clear hr hx hy h1 h2
        cases r with
        | true =>
          have hxy : Hid (x = y) := Lib.hid (of_decide_eq_true HR.out.symm)
          go_wp2_with fail
          go_quiet (fail)
          go_wp2_with fail
          go_roundw
          case rel => exact ⟨i + 1, by go_num, by omega, by show _ = _; rw [take_snoc HX.out, take_snoc HY.out, ht.out, hxy.out], H1.out.below (below_drewN (Below.refl _ _) _), H2.out.below (below_drewN (Below.refl _ _) _), below_drewN hB _⟩
          case measure => simp [intOf]; omega
        | false =>
          have HF : Hid (decide (l = k) = false) := by
            show _ = _
            refine decide_eq_false fun hlk => ?_
            have h3 := HX.out
            rw [hlk, HY.out] at h3
            have h4 := of_decide_eq_false HR.out.symm
            exact h4 (Option.some.inj h3).symm
          go_wp2_with fail
          go_quiet (fail)
          go_wp2_with fail
          go_ret
          exact ⟨by rw [HF.out]; rfl, below_drewN hB _⟩
      · obtain rfl : i = n := by omega
        have hd : decide ((i : Int) < (i : Int)) = false := by simp
        have HT : Hid (decide (l = k) = true) := by
          show _ = _
          refine decide_eq_true ?_
          have := ht.out
          rwa [List.take_of_length_le (by rw [HL1.out]; exact Nat.le_refl _), List.take_of_length_le (by rw [HL2.out]; exact Nat.le_refl _)] at this
        clear h1 h2
        go_wp2_with fail
        go_ret
        exact ⟨by rw [HT.out]; rfl, hB⟩
  · have hd0 : ((n : Int) != (m : Int)) = true := by simp; omega
    have HF : Hid (decide (l = k) = false) := by
      show _ = _
      refine decide_eq_false fun hlk => hnm ?_
      rw [← HL1.out, ← HL2.out, hlk]
    clear h1 h2
    go_enter Try.func48, Try.ntmps48
    go_wp2_with fail
    go_ret
    exact ⟨by rw [HF.out]; rfl, Below.refl _ _⟩

/-- bytes in memory of the call's own, that an append may go on behind -/
structure Spare (w : World) (base : Nat) (A : Option Addr) (n c : Nat) (l : List UInt8) : Prop where
  is_ : IsB w A n c l
  most : c ≤ maxLen
  at_ : (A = none ∧ c = 0) ∨ ∃ g, A = some ⟨g, 0, none⟩ ∧ base ≤ g ∧ g < w.heap.size ∧ ∀ j, n ≤ j → j < c → (w.cell? ⟨g, j, none⟩).isSome = true ∧ w.frozen? ⟨g, j, none⟩ = false
theorem byteCells_map (s : ByteArray) {l : List UInt8} (hs : s = ⟨l.toArray⟩) : (s.data.map fun b => Value.int .u8 (b.toNat : Int)) = (byteCells l).toArray := by
  subst hs
  simp [byteCells]
set_option maxRecDepth 100000 in
theorem copybytes_any {w : World} {A : Option Addr} {n c : Nat} {l : List UInt8} (h : IsB w A n c l) (hn : n ≤ 1000000) :
    Calls Try.prog 39 #[.slice A n c] w fun e w' => ∃ B c', e = .returned (.slice B n c') ∧ Spare w' w.heap.size B n c' l ∧ Below w.heap.size w w' := by
  obtain ⟨s, hs⟩ : ∃ s : ByteArray, s = ⟨l.toArray⟩ := ⟨_, rfl⟩
  have f1 := conv_str w h hs
  have hl := h.len
  have hss : s.size = n := by rw [hs]; simpa [ByteArray.size] using h.len
  have f2 := Lib.run_convert_string_bytes (P := Try.prog) w 9 26 5 s Try.underlying9 Try.underlying26 Try.underlying5
  have hnew := Lib.bytesWorld_at_new w 5 s
  have hB : Below w.heap.size w (Lib.bytesWorld w 5 s) := ⟨rfl, rfl, rfl, by rw [Lib.bytesWorld_size]; omega, fun b hb => Lib.bytesWorld_at_old w _ s b hb⟩
  have hsz := Lib.bytesWorld_size w 5 s
  have hcg := grownCap_ge w s.size 0 5
  have hcm := grownCap_le_maxLen w s.size 0 5 (by unfold maxLen; omega)
  have hcs : (Lib.bytesCells w 5 s).size = grownCap w s.size 0 5 := by
    have : s.data.size = s.size := rfl
    simp [Lib.bytesCells, this]; omega
  have hcell := Lib.bytesWorld_cell w 5 s
  rw [hss] at f2 hcg hcm hcs hcell
  generalize hW : Lib.bytesWorld w 5 s = W at f2 hnew hB hsz hcell
  generalize Lib.bytesCells w 5 s = cs at hnew hcs
  generalize grownCap w n 0 5 = c' at f2 hcg hcm hcs
  have hSp : Spare W w.heap.size (some ⟨w.heap.size, 0, none⟩) n c' l := by
    refine ⟨⟨hl, hcg, (fun e => by cases e), .inr ⟨_, 0, rfl, fun j u hj => ?_⟩⟩, hcm, .inr ⟨_, rfl, Nat.le_refl _, by omega, fun j hj hjc => ⟨?_, ?_⟩⟩⟩
    · have hj' := (List.getElem?_eq_some_iff.1 hj).1
      rw [Nat.zero_add, hcell j (by omega), hs]
      simp [List.getD, hj]
    · rw [cell_of_row _ _ _ _ _ _ hnew, Array.getElem?_eq_getElem (by omega)]
      rfl
    · simp only [World.frozen?, hnew, Bool.and_eq_false_iff, decide_eq_false_iff_not]
      left; omega
  have HSp := Lib.hid hSp
  have HB := Lib.hid hB
  clear h hs hW hnew hB hsz hcell hcs hcg hcm hSp
  go_enter Try.func39, Try.ntmps39
  go_wp2_with fail
  go_ret
  exact ⟨_, _, rfl, HSp.out, HB.out⟩
set_option maxRecDepth 100000 in
theorem pick_any (x : Int) (n : Nat) (w : World) (hn : n ≤ 1000000000) (hx : In64 x) :
    Calls Try.prog 38 #[.int .i64 x, .int .i64 (n : Int)] w fun e w' => e = .returned (.int .i64 (pickOf x n : Int)) ∧ w = w' := by
  by_cases h2 : n < 2
  · have hd : decide ((n : Int) < 2) = true := by simp; omega
    have hp : pickOf x n = 0 := by unfold pickOf; rw [if_pos h2]
    rw [hp]
    go_enter Try.func38, Try.ntmps38
    go_wp2_with fail
    go_ret
    exact ⟨rfl, rfl⟩
  · have hd : decide ((n : Int) < 2) = false := by simp; omega
    have hnz : ((n : Int) == 0) = false := by simp; omega
    have hq : (wrap64 (x.tmod (n : Int) + (n : Int))).tmod (n : Int) = (pickOf x n : Int) := by
      unfold In64 at hx
      have h1 := Int.tmod_lt_of_pos x (show (0 : Int) < (n : Int) by omega)
      have h0 : -(n : Int) < x.tmod (n : Int) := by
        by_cases hp : 0 ≤ x
        · have := Int.tmod_nonneg (n : Int) hp; omega
        · have h3 := Int.tmod_lt_of_pos (-x) (show (0 : Int) < (n : Int) by omega)
          rw [Int.neg_tmod] at h3
          omega
      have hw : wrap64 (x.tmod (n : Int) + (n : Int)) = x.tmod (n : Int) + (n : Int) := by unfold wrap64; omega
      rw [hw, Int.tmod_eq_emod_of_nonneg (by omega)]
      unfold pickOf
      rw [if_neg h2]
      have he := Int.emod_nonneg x (show (n : Int) ≠ 0 by omega)
      have : (x.tmod (n : Int) + (n : Int)) % (n : Int) = x % (n : Int) := by
        rw [Int.add_emod_right]
        have hd := Int.tmod_add_mul_tdiv x (n : Int)
        conv => rhs; rw [← hd]
        rw [Int.add_mul_emod_self_left]
      rw [this]
      omega
    go_enter Try.func38, Try.ntmps38
    go_wp2_with fail
    refine bodyPost_ret (v := .int .i64 (pickOf x n : Int)) (by simp [results, Try.results38, go_sem, hq]) rfl ⟨rfl, rfl⟩
end Go.Proofs.Ytebpdlggkncliaa

/-
  Appends to bytes in memory of the call's own, whose spare places may be written.
-/
set_option linter.unusedVariables false
namespace Go.Proofs.Ytebpdlggkncliaa
open Go.RowKit
open Go.Lib (byteCells byteCells_length byteCells_append uvarint)

theorem below_setCells (B : Nat) : ∀ (vs : List Value) (o : Nat) (w0 w : World) (b : Nat), Below B w0 w → B ≤ b → Below B w0 (w.setCells b o vs)
  | [], _, _, _, _, h, _ => h
  | v :: vs, o, w0, w, b, h, hb => below_setCells B vs (o + 1) w0 _ b (h.setCell (p := ⟨b, o, none⟩) hb v) hb
theorem Own.spare {w : World} {base : Nat} {v : Value} {l : List UInt8} (h : Own w base 5 v l) : ∃ A c, v = .slice A l.length c ∧ Spare w base A l.length c l := by
  obtain ⟨A, c, rfl, hI, hc⟩ := own_is h
  refine ⟨A, c, rfl, hI, hc, ?_⟩
  unfold Own at h
  rcases h.2 with ⟨hv, hn⟩ | ⟨g, cap, cur, hv, hb, hg, hnc, _, hcs, _⟩
  · simp only [Value.slice.injEq] at hv
    exact .inl ⟨hv.1, hv.2.2⟩
  · simp only [Value.slice.injEq] at hv
    obtain ⟨rfl, _, rfl⟩ := hv
    refine .inr ⟨g, rfl, hb, (Array.getElem?_eq_some_iff.1 hg).1, fun j hj hjc => ⟨?_, ?_⟩⟩
    · rw [cell_of_row _ _ _ _ _ _ hg, Array.getElem?_eq_getElem (by omega)]
      rfl
    · simp [World.frozen?, hg]
theorem Spare.below {w w' : World} {base : Nat} {A : Option Addr} {n c : Nat} {l : List UInt8} (h : Spare w base A n c l) (hb : Below w.heap.size w w') : Spare w' base A n c l := by
  refine ⟨h.is_.below hb, h.most, ?_⟩
  rcases h.at_ with h0 | ⟨g, hA, h1, h2, h3⟩
  · exact .inl h0
  · refine .inr ⟨g, hA, h1, Nat.lt_of_lt_of_le h2 hb.size, fun j hj hjc => ?_⟩
    rw [World.cell?_of_block (a := ⟨g, j, none⟩) (hb.block g h2), World.frozen?_of_block (a := ⟨g, j, none⟩) (hb.block g h2)]
    exact h3 j hj hjc
set_option maxHeartbeats 1000000 in
theorem spare_append {w : World} {base : Nat} {A : Option Addr} {n c : Nat} {l : List UInt8} (h : Spare w base A n c l) (hb : base ≤ w.heap.size) {B : Option Addr} {m d : Nat} {news : List UInt8} (hB : IsB w B m d news) (hsz : n + m ≤ 1000000) :
    ∃ A' c' w', (Builtin.append_ #[26, 26] 26 #[.slice A n c, .slice B m d]).run Try.prog w = .ok (.slice A' (n + m) c') w' ∧ Spare w' base A' (n + m) c' (l ++ news) ∧ Below base w w' := by
  obtain ⟨i0, h2, h3, h4, h5⟩ := info_parts infoU8
  have hl := h.is_.len
  have hbl := hB.len
  have ecs : byteCells l ++ byteCells news = byteCells (l ++ news) := (byteCells_append _ _).symm
  have fin : ∀ v' w', (Builtin.append_ #[26, 26] 26 #[.slice A n c, .slice B m d]).run Try.prog w = .ok v' w' → w'.ownsRow w.heap.size 5 1 v' (n + m) (byteCells l ++ byteCells news) → w.grownBy w' none →
      ∃ A' c' w', (Builtin.append_ #[26, 26] 26 #[.slice A n c, .slice B m d]).run Try.prog w = .ok (.slice A' (n + m) c') w' ∧ Spare w' base A' (n + m) c' (l ++ news) ∧ Below base w w' := by
    intro v' w' hr ho hg
    have hnm : n + m = (l ++ news).length := by rw [List.length_append, hl, hbl]
    rw [ecs, hnm] at ho
    have ho' : Own w' w.heap.size 5 v' (l ++ news) := ho
    obtain ⟨A', c', rfl, hS⟩ := (ho'.mono hb).spare
    rw [← hnm] at hS hr
    exact ⟨A', c', w', hr, hS, (Below.refl base w).grown hg hb fun k hk => by cases hk⟩
  cases B with
  | none =>
    obtain rfl : d = 0 := hB.none_ rfl
    have hcap := hB.cap
    obtain rfl : m = 0 := by omega
    obtain rfl : news = [] := List.eq_nil_of_length_eq_zero hbl
    have hle := h.is_.cap
    have hr : (Builtin.append_ #[26, 26] 26 #[.slice A n c, .slice none 0 0]).run Try.prog w = .ok (.slice A n c) w := by
      cases A <;> simp [Builtin.append_, run_underlying Try.underlying26, sizeOf, typeInfo, h2, Builtin.lenOf, Builtin.firstCells, hle, storeCells]
    exact ⟨A, c, w, hr, by rw [List.append_nil]; exact h, Below.refl _ _⟩
  | some ad =>
    have hnews := hB.src.cells ad rfl
    rcases h.at_ with ⟨rfl, rfl⟩ | ⟨g, rfl, hg1, hg2, hg3⟩
    · have hcap := h.is_.cap
      obtain rfl : n = 0 := by omega
      obtain rfl : l = [] := List.eq_nil_of_length_eq_zero hl
      obtain ⟨v', w', hr, r1, r2, _⟩ := run_append_own (P := Try.prog) w w.heap.size 26 26 5 i0 (.int .u8 0) 1 1 Try.underlying26 h2 h3 h4 h5 rfl (by decide) (.slice none 0 0) 0 [] (World.ownsRow_nil w _ _ 1) ad m d (byteCells news)
        (by rw [byteCells_length, hbl, Nat.mul_one]) hnews (byteCells_one _) (by unfold maxLen; omega) (by omega) (Nat.le_refl _)
      exact fin v' w' hr (by simpa [byteCells] using r1) r2
    · by_cases hroom : n + m ≤ c
      · have hs1 : i0.size = 1 := h4
        have hr := run_append_room_cells (P := Try.prog) w 26 26 5 i0 Try.underlying26 h2 g 0 n c ad m d (byteCells news) (by rw [byteCells_length, hbl, hs1, Nat.mul_one]) hnews (byteCells_one _) hroom
          (fun j hj => by rw [byteCells_length, hbl] at hj; rw [hs1, Nat.mul_one, Nat.zero_add]; exact (hg3 (n + j) (by omega) (by omega)).1)
          (fun j hj => by rw [byteCells_length, hbl] at hj; rw [hs1, Nat.mul_one, Nat.zero_add]; exact (hg3 (n + j) (by omega) (by omega)).2)
        rw [hs1, Nat.mul_one, Nat.zero_add] at hr
        refine ⟨_, c, _, hr, ⟨⟨by rw [List.length_append, hl, hbl], hroom, (fun e => by cases e), .inr ⟨g, 0, rfl, fun j u hj => ?_⟩⟩, h.most, .inr ⟨g, rfl, hg1, ?_, fun j hj hjc => ⟨?_, ?_⟩⟩⟩, below_setCells base (byteCells news) n w w g (Below.refl _ _) hg1⟩
        · rw [Nat.zero_add]
          by_cases hjn : j < n
          · rw [World.cell?_setCells_out g _ _ _ _ (fun _ _ => .inl hjn)]
            rw [List.getElem?_append_left (by omega)] at hj
            rcases h.is_.src with h0 | ⟨b', o', hA, hc⟩
            · rw [h0] at hj; simp at hj
            · simp only [Option.some.injEq, Addr.mk.injEq] at hA
              obtain ⟨rfl, rfl, _⟩ := hA
              have := hc j u hj
              rwa [Nat.zero_add] at this
          · rw [List.getElem?_append_right (by omega), hl] at hj
            have hjm := (List.getElem?_eq_some_iff.1 hj).1
            have := World.cell?_setCells_in g (byteCells news) n w (fun q hq => by rw [byteCells_length, hbl] at hq; exact (hg3 (n + q) (by omega) (by omega)).1) (j - n) (by rw [byteCells_length]; exact hjm)
            rw [show n + (j - n) = j by omega] at this
            rw [this]
            have e := List.getElem?_eq_getElem (l := byteCells news) (i := j - n) (by rw [byteCells_length]; exact hjm)
            rw [← e, byteCells, List.getElem?_map, hj]
            rfl
        · have := (below_setCells base (byteCells news) n w w g (Below.refl _ _) hg1).size
          omega
        · rw [World.cell?_setCells_out g _ _ _ _ (fun _ _ => .inr (by rw [byteCells_length, hbl]; exact hj))]
          exact (hg3 j (by omega) hjc).1
        · rw [World.frozen?_setCells]
          exact (hg3 j (by omega) hjc).2
      · have holds : ∀ j u, (byteCells l)[j]? = some u → w.cell? ((⟨g, 0, none⟩ : Addr).add j) = some u := h.is_.src.cells _ rfl
        obtain ⟨v', w', hr, r1, r2⟩ := run_append_arg_grows (P := Try.prog) w 26 26 5 i0 (.int .u8 0) 1 1 Try.underlying26 h2 h3 h4 h5 rfl (by decide) ⟨g, 0, none⟩ n c (byteCells l) (by rw [byteCells_length, hl, Nat.mul_one]) holds ad m d (byteCells news)
          (by rw [byteCells_length, hbl, Nat.mul_one]) hnews (by omega) (by unfold maxLen; omega) (by omega)
        exact fin v' w' hr r1 r2
end Go.Proofs.Ytebpdlggkncliaa
