/-
  events: what a frame's body is of.
-/
import Derived.Test.YtiockkphciadeaaEvRead
set_option linter.unusedVariables false
set_option linter.unusedSimpArgs false
namespace Go.Proofs.Ytiockkphciadeaa
open Go.RowKit
open Go.Lib (byteCells byteCells_length byteCells_append uvarint)

theorem getEv_le {p : Ev} {l : List UInt8} {k : Nat} (h : (getEv p l k).2.2 = 0) (hk : k ≤ l.length) : (getEv p l k).2.1 ≤ l.length := by
  obtain ⟨_, r, hd, hn⟩ := getEv_sound h
  have := congrArg List.length hd
  rw [List.length_drop, List.length_append] at this
  omega
/-- what events answers -/
def EventsSay (m : List UInt8) (base : Nat) (e : Ending) (w' : World) : Prop :=
  (∃ es v, evsOf m = some es ∧ e = .returned (.tuple #[v, .bool true]) ∧ OwnE w' base v es) ∨ (evsOf m = none ∧ e = .returned (.tuple #[.slice none 0 0, .bool false]))
set_option maxRecDepth 100000 in
set_option maxHeartbeats 2000000 in
theorem events_any (A : Option Addr) (n c : Nat) (m : List UInt8) (w : World) (h : IsB w A n c m) (hn : n ≤ 1000000) :
    Calls Try.prog 81 #[.slice A n c] w fun e w' => EventsSay m w.heap.size e w' ∧ Below w.heap.size w w' := by
  have hG := getUint_any A n c 0 m w h (by omega) (by omega)
  rw [List.drop_zero] at hG
  have hlt := getU_lt m
  have hle := getU_le m
  rw [h.len] at hle
  have HEV : Hid (evsOf m = if (getU m).2.2 ≠ 0 ∨ (getU m).1 = 0 ∨ 4096 < (getU m).1 then none else match readEvs (getU m).1 Ev.zero m (getU m).2.1 with
    | some r => if r.2 = m.length then some r.1 else none
    | none => none) := rfl
  unfold ansU nextU at hG
  rw [Nat.zero_add] at hG
  generalize getU m = q at hG hlt hle HEV
  obtain ⟨N, j0, f⟩ := q
  dsimp only at hG hlt hle HEV
  have HG := Lib.hid hG
  have HLE := Lib.hid hle
  clear hG hle
  by_cases hbad : f ≠ 0 ∨ N = 0 ∨ 4096 < N
  · have hev : evsOf m = none := by rw [HEV.out, if_pos hbad]
    have hfin : EventsSay m w.heap.size (.returned (.tuple #[.slice none 0 0, .bool false])) w := .inr ⟨hev, rfl⟩
    have HF := Lib.hid hfin
    clear hev HEV hfin h
    by_cases h1 : f = 0
    · have d1 : ((f : Int) != 0) = false := by simp; omega
      by_cases h2 : N = 0
      · have d2 : ((N : Int) == 0) = true := by simp; omega
        clear hbad
        go_enter Try.func81, Try.ntmps81
        go_wp2_with fail
        refine HG.out.mono ?_
        rintro e w' ⟨rfl, rfl⟩
        go_wp2_with fail
        go_ret2
        exact ⟨HF.out, Below.refl _ _⟩
      · have d2 : ((N : Int) == 0) = false := by simp; omega
        have d3 : decide ((4096 : Int) < (N : Int)) = true := by simp; omega
        clear hbad
        go_enter Try.func81, Try.ntmps81
        go_wp2_with fail
        refine HG.out.mono ?_
        rintro e w' ⟨rfl, rfl⟩
        go_wp2_with fail
        go_ret2
        exact ⟨HF.out, Below.refl _ _⟩
    · have d1 : ((f : Int) != 0) = true := by simp; omega
      clear hbad
      go_enter Try.func81, Try.ntmps81
      go_wp2_with fail
      refine HG.out.mono ?_
      rintro e w' ⟨rfl, rfl⟩
      go_wp2_with fail
      go_ret2
      exact ⟨HF.out, Below.refl _ _⟩
  · obtain rfl : f = 0 := by omega
    have hev : evsOf m = match readEvs N Ev.zero m j0 with
      | some r => if r.2 = m.length then some r.1 else none
      | none => none := by rw [HEV.out, if_neg hbad]
    have HE := Lib.hid hev
    have d2 : ((N : Int) == 0) = false := by simp; omega
    have d3 : decide ((4096 : Int) < (N : Int)) = false := by simp; omega
    have hN1 : N ≤ 4096 := by omega
    have hj0 : j0 ≤ n := HLE.out rfl
    have HL := Lib.hid h.len
    rw [if_pos rfl] at HG
    clear HLE hev HEV hbad
    go_enter Try.func81, Try.ntmps81
    go_wp2_with fail
    refine HG.out.mono ?_
    rintro e w' ⟨rfl, rfl⟩
    clear HG
    go_wp2_with fail
    have hab : (w.alloc (.cells #[.int .i64 0, .int .u8 0, .int .i64 0, .int .i64 0, .int .i64 0] 54)).heap[w.heap.size]? = some (.cells #[.int .i64 0, .int .u8 0, .int .i64 0, .int .i64 0, .int .i64 0] 54 (0, 0)) := heap_alloc_new _ _
    have hb2 : Below w.heap.size w (w.alloc (.cells #[.int .i64 0, .int .u8 0, .int .i64 0, .int .i64 0, .int .i64 0] 54)) := (Below.refl _ _).alloc (Nat.le_refl _) _
    go_loopw [5, 6, 7, 26] (fun a g v q wr => ∃ (j k : Nat) (acc : List Ev) (p : Ev), q = .int .u64 (j : Int) ∧ j ≤ N ∧ a = .int .i64 (k : Int) ∧ k ≤ n ∧ g = .int .i64 0 ∧ acc.length = j ∧ OwnE wr (w.heap.size + 1) v acc ∧
      Hid (readEvs N Ev.zero m j0 = (readEvs (N - j) p m k).map fun r => (acc ++ r.1, r.2)) ∧
      wr.heap[w.heap.size]? = some (.cells #[.int .i64 p.th, .int .u8 (p.op : Int), .int .i64 p.obj, .int .i64 p.a, .int .i64 p.b] 54 (0, 0)) ∧ Below w.heap.size w wr) (fun _ _ _ q _ => N - (intOf q).toNat)
    case atStart =>
      refine ⟨0, j0, [], Ev.zero, rfl, by omega, rfl, hj0, rfl, rfl, OwnE.nil _ _, ?_, hab, hb2⟩
      show _ = _
      rw [Nat.sub_zero]
      cases readEvs N Ev.zero m j0 <;> simp
    case round =>
      clear hab hb2 hj0
      obtain ⟨j, k, acc, p, rfl, hj, rfl, hk, rfl, hacc, hO, hR, hab, hB⟩ := hrel
      obtain ⟨A', n', c', rfl, _, hn', _⟩ := hO.is_
      have hn'' : n' = j := hn'.trans hacc
      clear hn'
      subst n'
      have HACC := Lib.hid hacc
      clear hacc
      by_cases hjN : j < N
      · have hd : decide ((j : Int) < (N : Int)) = true := decide_eq_true (by omega)
        have a0 : wr.cell? ⟨w.heap.size, 0, none⟩ = some (.int .i64 p.th) := cell_of_row _ _ 0 _ _ _ hab
        have a1 : wr.cell? ⟨w.heap.size, 1, none⟩ = some (.int .u8 (p.op : Int)) := cell_of_row _ _ 1 _ _ _ hab
        have a2 : wr.cell? ⟨w.heap.size, 2, none⟩ = some (.int .i64 p.obj) := cell_of_row _ _ 2 _ _ _ hab
        have a3 : wr.cell? ⟨w.heap.size, 3, none⟩ = some (.int .i64 p.a) := cell_of_row _ _ 3 _ _ _ hab
        have a4 : wr.cell? ⟨w.heap.size, 4, none⟩ = some (.int .i64 p.b) := cell_of_row _ _ 4 _ _ _ hab
        have HAB := Lib.hid hab
        have hla := (Array.getElem?_eq_some_iff.1 hab).1
        have HGE := Lib.hid (Get_any A n c k m p wr (h.below hB) hn hk)
        have hR' : Hid (readEvs N Ev.zero m j0 = (if (getEv p m k).2.2 = 0 then (readEvs (N - (j + 1)) (getEv p m k).1 m (getEv p m k).2.1).map fun r => ((getEv p m k).1 :: r.1, r.2) else none).map fun r => (acc ++ r.1, r.2)) := by
          show _ = _
          rw [hR.out, show N - j = (N - (j + 1)) + 1 by omega]
          rfl
        have hgl := getEv_le (p := p) (l := m) (k := k)
        rw [h.len] at hgl
        unfold ansE at HGE
        generalize getEv p m k = q at HGE hR' hgl
        obtain ⟨x, k', f⟩ := q
        dsimp only at HGE hR' hgl
        have HGL := Lib.hid hgl
        clear hR hab hgl h
        go_wp2_with fail
        refine HGE.out.mono ?_
        rintro e w3 ⟨rfl, hb3⟩
        have hab3 := (hb3.block _ hla).trans HAB.out
        have z0 : w3.cell? ⟨w.heap.size, 0, none⟩ = some (.int .i64 p.th) := cell_of_row _ _ 0 _ _ _ hab3
        have z1 : w3.cell? ⟨w.heap.size, 1, none⟩ = some (.int .u8 (p.op : Int)) := cell_of_row _ _ 1 _ _ _ hab3
        have z2 : w3.cell? ⟨w.heap.size, 2, none⟩ = some (.int .i64 p.obj) := cell_of_row _ _ 2 _ _ _ hab3
        have z3 : w3.cell? ⟨w.heap.size, 3, none⟩ = some (.int .i64 p.a) := cell_of_row _ _ 3 _ _ _ hab3
        have z4 : w3.cell? ⟨w.heap.size, 4, none⟩ = some (.int .i64 p.b) := cell_of_row _ _ 4 _ _ _ hab3
        have zf0 := free_of_row hab3 0
        have zf1 := free_of_row hab3 1
        have zf2 := free_of_row hab3 2
        have zf3 := free_of_row hab3 3
        have zf4 := free_of_row hab3 4
        obtain ⟨hs5, hA5⟩ := set5 hab3 (.int .i64 x.th) (.int .u8 (x.op : Int)) (.int .i64 x.obj) (.int .i64 x.a) (.int .i64 x.b)
        have hO3 := hO.below hb3
        have hB3 := hB.trans (hb3.mono hB.size)
        have hO5 := hO3.away hA5 fun b hb e => by have := (hO3.type hb).choose_spec.2; omega
        have hB5 := hB3.trans (hA5.below (B := w.heap.size) hB3.size fun b hb => by omega)
        have HS5 := Lib.hid hs5
        clear a0 a1 a2 a3 a4 HGE hO hB hb3 hab3 hs5 hA5 hO3 hB3
        by_cases hf : f = 0
        · subst hf
          rw [if_pos rfl] at hR'
          have hk' := HGL.out rfl (by have := HL.out; omega)
          clear HGL
          have hx0 : ((((((w3.setCell ⟨w.heap.size, 0, none⟩ (.int .i64 x.th)).setCell ⟨w.heap.size, 1, none⟩ (.int .u8 (x.op : Int))).setCell ⟨w.heap.size, 2, none⟩ (.int .i64 x.obj)).setCell ⟨w.heap.size, 3, none⟩ (.int .i64 x.a)).setCell ⟨w.heap.size, 4, none⟩ (.int .i64 x.b)).alloc (.cells #[.int .i64 x.th, .int .u8 (x.op : Int), .int .i64 x.obj, .int .i64 x.a, .int .i64 x.b] 54)).heap[w3.heap.size]? = some (.cells #[.int .i64 x.th, .int .u8 (x.op : Int), .int .i64 x.obj, .int .i64 x.a, .int .i64 x.b] 54 (0, 0)) := by
            have := heap_alloc_new (((((w3.setCell ⟨w.heap.size, 0, none⟩ (.int .i64 x.th)).setCell ⟨w.heap.size, 1, none⟩ (.int .u8 (x.op : Int))).setCell ⟨w.heap.size, 2, none⟩ (.int .i64 x.obj)).setCell ⟨w.heap.size, 3, none⟩ (.int .i64 x.a)).setCell ⟨w.heap.size, 4, none⟩ (.int .i64 x.b)) (.cells #[.int .i64 x.th, .int .u8 (x.op : Int), .int .i64 x.obj, .int .i64 x.a, .int .i64 x.b] 54)
            simpa using this
          have hbx : Below (((((w3.setCell ⟨w.heap.size, 0, none⟩ (.int .i64 x.th)).setCell ⟨w.heap.size, 1, none⟩ (.int .u8 (x.op : Int))).setCell ⟨w.heap.size, 2, none⟩ (.int .i64 x.obj)).setCell ⟨w.heap.size, 3, none⟩ (.int .i64 x.a)).setCell ⟨w.heap.size, 4, none⟩ (.int .i64 x.b)).heap.size (((((w3.setCell ⟨w.heap.size, 0, none⟩ (.int .i64 x.th)).setCell ⟨w.heap.size, 1, none⟩ (.int .u8 (x.op : Int))).setCell ⟨w.heap.size, 2, none⟩ (.int .i64 x.obj)).setCell ⟨w.heap.size, 3, none⟩ (.int .i64 x.a)).setCell ⟨w.heap.size, 4, none⟩ (.int .i64 x.b)) ((((((w3.setCell ⟨w.heap.size, 0, none⟩ (.int .i64 x.th)).setCell ⟨w.heap.size, 1, none⟩ (.int .u8 (x.op : Int))).setCell ⟨w.heap.size, 2, none⟩ (.int .i64 x.obj)).setCell ⟨w.heap.size, 3, none⟩ (.int .i64 x.a)).setCell ⟨w.heap.size, 4, none⟩ (.int .i64 x.b)).alloc (.cells #[.int .i64 x.th, .int .u8 (x.op : Int), .int .i64 x.obj, .int .i64 x.a, .int .i64 x.b] 54)) := (Below.refl _ _).alloc (Nat.le_refl _) _
          have hzw := hB5.size
          obtain ⟨v', w6, hr, A2, c2, rfl, hO6, hA6⟩ := oe_append (hO5.below hbx) (by have := hB5.size; simp at this ⊢; omega) 60 x hx0 (by rw [HACC.out]; omega)
          have hab6 := (hA6.block w.heap.size (by simp; have := hB5.size; simp at this; omega) (fun e => by have := (hO5.type e).choose_spec.2; omega)).trans ((hbx.block _ (by have := (Array.getElem?_eq_some_iff.1 HS5.out).1; exact this)).trans HS5.out)
          have hB6 := (hB5.trans (hbx.mono hzw)).trans (hA6.below (B := w.heap.size) (by have := hbx.size; exact Nat.le_trans hzw this) fun b e => by have := (hO5.type e).choose_spec.2; omega)
          have hR6 : Hid (readEvs N Ev.zero m j0 = (readEvs (N - (j + 1)) x m k').map fun r => ((acc ++ [x]) ++ r.1, r.2)) := by
            show _ = _
            rw [hR'.out]
            cases readEvs (N - (j + 1)) x m k' <;> simp
          clear hbx hzw hR' hB5 hO5
          go_wp2_with (at_builtin; refine wpList_run _ rfl (.tmp 38) (.tmp 40) 60 rfl (R := fun v' w' => v' = .slice A2 (j + 1) c2 ∧ w' = w6) ⟨_, _, hr, rfl, rfl⟩ ?_; rintro v' w' ⟨rfl, rfl⟩)
          clear z0 z1 z2 z3 z4 zf0 zf1 zf2 zf3 zf4 hx0 hr
          go_roundw
          case rel => exact ⟨j + 1, k', acc ++ [x], x, by go_num, by omega, rfl, hk', rfl, by simp [HACC.out], hO6, hR6, hab6, hB6⟩
          case measure => simp [intOf]; omega
        · have hdf : ((f : Int) != 0) = true := by simp; omega
          have hfin : evsOf m = none := by
            rw [HE.out, hR'.out, if_neg hf]
            rfl
          clear hR' HE
          go_wp2_with fail
          go_ret2
          exact ⟨.inr ⟨hfin, rfl⟩, hB5⟩
      · obtain rfl : j = N := by omega
        have hd : decide ((j : Int) < (j : Int)) = false := by simp
        have hev : evsOf m = if k = m.length then some acc else none := by
          rw [HE.out, hR.out, Nat.sub_self]
          simp [readEvs]
        rw [HL.out] at hev
        have HV := Lib.hid hev
        have hO' := hO.mono (base' := w.heap.size) (by omega)
        clear hev h hR hab HE hO
        by_cases hkn : k = n
        · have hd2 : ((k : Int) != (n : Int)) = false := by simp; omega
          go_wp2_with fail
          go_ret2
          exact ⟨.inl ⟨acc, _, by rw [HV.out, if_pos hkn], rfl, hO'⟩, hB⟩
        · have hd2 : ((k : Int) != (n : Int)) = true := by simp; omega
          go_wp2_with fail
          go_ret2
          exact ⟨.inr ⟨by rw [HV.out, if_neg hkn], rfl⟩, hB⟩
end Go.Proofs.Ytiockkphciadeaa
