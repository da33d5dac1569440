/-
  The disk's leaves: its map's operations; mayStand, right, made, ready.
-/
import Derived.Test.YtdcflgblaljdeaaDkMem
import Derived.Test.YtdcflgblaljdeaaLeaf
import Derived.RegionTactic
import Derived.BigRegion
import Derived.Lib.Hide
import Derived.WalkSpells
import Derived.Outline
set_option linter.unusedVariables false
set_option linter.unusedSimpArgs false
namespace Go.Proofs.Ytdcflgblaljdeaa
open Go.RowKit Go.Maps

theorem strK : Keyed Try.prog 9 := string_keyed Try.underlying9
theorem zeroFile (w : World) : (zeroValue 97).run Try.prog w = .ok Raw.zero.val w := by kernel_rfl
theorem own_tight {w : World} {P : Program} {k : TypeId} {b n : Nat} {l : List (Nm × Value)} (h : w.ownsMap P k asIs b n (dmap l)) : w.ownsMap P k asIs b l.length (dmap l) := by
  obtain ⟨es, clock, hb, F, hs, hD⟩ := h
  refine ⟨es, clock, hb, F, ?_, hD⟩
  have h1 := congrArg Maps.size hD
  rw [dmap_size, Maps.size_eq, length_sorted, List.length_map] at h1
  simp at h1
  omega
def atR (ms : List (Nm × Raw)) (nm : Nm) : Raw := (aget nm ms).getD Raw.zero
theorem key_of {s : ByteArray} (hs : s.size ≤ maxLen) : keyOf Try.prog 9 (.string s) = some (.string s.data.toList) := WideMaps.keyOf_string_mk Try.underlying9 hs
theorem at_val (ms : List (Nm × Raw)) (nm : Nm) : (aget nm (amap Raw.val ms)).getD Raw.zero.val = (atR ms nm).val := by
  rw [aget_amap]
  unfold atR
  cases aget nm ms <;> rfl
theorem look_run {w : World} {mb : Nat} {ms : List (Nm × Raw)} (h : w.ownsMap Try.prog 9 asIs mb ms.length (dmap (amap Raw.val ms))) {s : ByteArray} (hs : s.size ≤ maxLen) :
    (Instr.lookup 61 (.map (some mb)) (.string s) false).run Try.prog w = .ok (atR ms s.data.toList).val w := by
  obtain ⟨v, ps, hr, hv⟩ := h.lookup strK Try.underlying61 (zeroFile w) (zd := .held Raw.zero.val) (zp := []) rfl (key_of hs)
  rw [dmap_at, at_val] at hv
  unfold asIs at hv
  simp only [Option.some.injEq, Prod.mk.injEq, DataW.held.injEq] at hv
  rw [← hv.1]
  exact hr
theorem look_ok_run {w : World} {mb : Nat} {ms : List (Nm × Raw)} (h : DkR w mb ms) {s : ByteArray} (hs : s.size ≤ maxLen) :
    (Instr.lookup 61 (.map (some mb)) (.string s) true).run Try.prog w = .ok (.tuple #[(atR ms s.data.toList).val, .bool (aget s.data.toList ms).isSome]) w := by
  obtain ⟨v, ps, hr, hv⟩ := h.own.look_ok strK Try.underlying61 (zeroFile w) (zd := .held Raw.zero.val) (zp := []) rfl (key_of hs)
  rw [dmap_at, at_val] at hv
  unfold asIs at hv
  simp only [Option.some.injEq, Prod.mk.injEq, DataW.held.injEq] at hv
  rw [dmap_has, aget_amap, Option.isSome_map, hv.1] at hr
  exact hr
theorem len_run {w : World} {mb : Nat} {ms : List (Nm × Raw)} (h : DkR w mb ms) (ty : TypeId) :
    (Builtin.len_ #[61] ty #[.map (some mb)]).run Try.prog w = .ok (.int .i64 (ms.length : Int)) w := by
  have := h.own.len Try.underlying61 ty
  rw [dmap_size] at this
  simpa [amap] using this
theorem store_run {w : World} {mb : Nat} {ms : List (Nm × Raw)} (h : w.ownsMap Try.prog 9 asIs mb ms.length (dmap (amap Raw.val ms))) (hl : ms.length < maxLen) {s : ByteArray} (hs : s.size ≤ maxLen) (r : Raw) :
    ∃ w', (Instr.mapUpdate 61 (.map (some mb)) (.string s) r.val).run Try.prog w = .ok () w' ∧ w'.ownsMap Try.prog 9 asIs mb (aput s.data.toList r ms).length (dmap (amap Raw.val (aput s.data.toList r ms))) ∧ w.mapTurned w' mb := by
  obtain ⟨w', hr, ho, ht⟩ := h.store strK Try.underlying61 hl (key_of hs) (val := r.val) (d := .held r.val) (ps := []) rfl
  refine ⟨w', hr, ?_, ht⟩
  rw [dmap_put, ← amap_aput] at ho
  have := own_tight ho
  rwa [show (amap Raw.val (aput s.data.toList r ms)).length = (aput s.data.toList r ms).length by simp [amap]] at this
theorem drop_run {w : World} {mb : Nat} {ms : List (Nm × Raw)} (h : w.ownsMap Try.prog 9 asIs mb ms.length (dmap (amap Raw.val ms))) {s : ByteArray} (hs : s.size ≤ maxLen) (ty : TypeId) :
    ∃ w', (Builtin.delete_ #[61, 9] ty #[.map (some mb), .string s]).run Try.prog w = .ok (.tuple #[]) w' ∧ w'.ownsMap Try.prog 9 asIs mb (adel s.data.toList ms).length (dmap (amap Raw.val (adel s.data.toList ms))) ∧ w.mapTurned w' mb := by
  obtain ⟨w', hr, ho, ht⟩ := h.drop strK Try.underlying61 (key_of hs) ty
  refine ⟨w', hr, ?_, ht⟩
  rw [dmap_del, ← amap_adel] at ho
  have := own_tight ho
  rwa [show (amap Raw.val (adel s.data.toList ms)).length = (adel s.data.toList ms).length by simp [amap]] at this

/-! ### mayStand, right -/
theorem ret_bool {a b : Bool} (h : a = b) : Ending.returned (.bool a) = .returned (.bool b) := by rw [h]
set_option maxRecDepth 100000 in
set_option maxHeartbeats 1000000 in
theorem may_any (x : Nat) (hx : x < 256) (w : World) : Calls Try.prog 93 #[.int .u8 (x : Int)] w fun e w' =>
    e = .returned (.bool ((97 ≤ x && x ≤ 122) || (48 ≤ x && x ≤ 57) || x == 46 || x == 45)) ∧ w = w' := by
  go_enter Try.func93, Try.ntmps93
  go_wp2_with fail
  all_goals go_ret
  all_goals exact ⟨ret_bool (by rw [Bool.eq_iff_iff]; simp; omega), rfl⟩

theorem may_byte (u : UInt8) (w : World) : Calls Try.prog 93 #[.int .u8 (u.toNat : Int)] w fun e w' => e = .returned (.bool (mayC u)) ∧ w = w' :=
  may_any u.toNat u.toNat_lt w
theorem take_snoc' {α : Type} {l : List α} {k : Nat} {x : α} (h : l[k]? = some x) : l.take (k + 1) = l.take k ++ [x] := by
  obtain ⟨hl, e⟩ := List.getElem?_eq_some_iff.1 h
  rw [List.take_succ_eq_append_getElem hl, e]
set_option maxRecDepth 100000 in
set_option maxHeartbeats 1000000 in
theorem right_any (s : ByteArray) (hs : s.size ≤ maxLen) (w : World) : Calls Try.prog 55 #[.string s] w fun e w' => e = .returned (.bool (rightN s.data.toList)) ∧ w = w' := by
  unfold maxLen at hs
  have hl : s.data.toList.length = s.size := by simp
  by_cases h0 : s.size = 0
  · have hR : rightN s.data.toList = false := by unfold rightN; rw [hl, decide_eq_false (show ¬ 1 ≤ s.size by omega), Bool.false_and, Bool.false_and]
    rw [hR]
    clear hR hl
    go_enter Try.func55, Try.ntmps55
    go_wp2_with fail
    all_goals (go_ret; exact ⟨rfl, rfl⟩)
  · by_cases h4 : 40 < s.size
    · have hR : rightN s.data.toList = false := by unfold rightN; rw [hl, decide_eq_false (show ¬ s.size ≤ 40 by omega), Bool.and_false, Bool.false_and]
      rw [hR]
      have h1 : ((s.size : Int) == 0) = false := beq_eq_false_iff_ne.2 (by omega)
      clear hR hl
      go_enter Try.func55, Try.ntmps55
      go_wp2_with fail
      all_goals (go_ret; exact ⟨rfl, rfl⟩)
    · have HR : Hid (rightN s.data.toList = s.data.toList.all mayC) := by
        show _ = _
        unfold rightN
        rw [hl]
        have : (decide (1 ≤ s.size) && decide (s.size ≤ 40)) = true := by rw [decide_eq_true (show 1 ≤ s.size by omega), decide_eq_true (show s.size ≤ 40 by omega)]; rfl
        rw [this, Bool.true_and]
      have h1 : ((s.size : Int) == 0) = false := beq_eq_false_iff_ne.2 (by omega)
      have h5 : decide ((40 : Int) < (s.size : Int)) = false := decide_eq_false (by omega)
      clear hl
      go_enter Try.func55, Try.ntmps55
      go_wp2_with fail
      go_loop [14] (fun i => ∃ k : Nat, k ≤ s.size ∧ i = .int .i64 (k : Int) ∧ Hid ((s.data.toList.take k).all mayC = true)) (fun i => s.size - (intOf i).toNat)
      case atStart => exact ⟨0, Nat.zero_le _, rfl, rfl⟩
      case round =>
        obtain ⟨k, hk, rfl, hall⟩ := hrel
        by_cases hlt : k < s.size
        · have hx := s[k].toNat_lt
          have hk' : s.data.toList[k]? = some s[k] := by rw [List.getElem?_eq_getElem (by simpa using hlt)]; simp [ByteArray.getElem_eq_getElem_data]
          have HK := Lib.hid hk'
          clear hk'
          by_cases hb : mayC s[k] = true
          · go_wp2_with fail
            refine (may_byte s[k] w).mono ?_
            rintro e w' ⟨rfl, rfl⟩
            rw [hb]
            have HB := Lib.hid hb
            clear hb
            go_wp2_with fail
            go_round
            case rel => exact ⟨k + 1, by omega, by go_num, by show _ = _; rw [take_snoc' HK.out, List.all_append, hall.out]; simpa using HB.out⟩
            case measure => simp [intOf]; omega
          · have hb := Bool.eq_false_iff.2 hb
            have HF : Hid (rightN s.data.toList = false) := by
              show _ = _
              rw [HR.out, List.all_eq_false]
              exact ⟨_, List.mem_of_getElem? HK.out, by rw [hb]; simp⟩
            go_wp2_with fail
            refine (may_byte s[k] w).mono ?_
            rintro e w' ⟨rfl, rfl⟩
            rw [hb]
            go_wp2_with fail
            go_ret
            exact ⟨ret_bool HF.out.symm, rfl⟩
        · go_wp2_with fail
          go_ret
          refine ⟨ret_bool ?_, rfl⟩
          rw [HR.out, ← hall.out, List.take_of_length_le (by simp; omega)]
end Go.Proofs.Ytdcflgblaljdeaa
