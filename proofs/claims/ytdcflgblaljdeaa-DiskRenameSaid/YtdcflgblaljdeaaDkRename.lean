/-
  DiskRename: behind Rename the name is there, through any crash, with as many of the one's bytes as were synced, or are kept.
-/
import Derived.Test.YtdcflgblaljdeaaDkAwake
import Derived.Deep.RegionHeld3
import Derived.Outline
set_option linter.unusedVariables false
set_option linter.unusedSimpArgs false
namespace Go.Proofs.Ytdcflgblaljdeaa
open Go.RowKit Go.Maps

theorem run_fromB (w : World) (A : Option Addr) (n c i : Nat) (hi : i ≤ n) :
    (Instr.slice 26 (.slice A n c) (some (.int .i64 (i : Int))) none none).run Try.prog w = .ok (.slice (if c = i then A else A.map (·.add i)) (n - i) (c - i)) w := by
  obtain ⟨i0, hi0, hz0, hz1, hz2⟩ := info_parts infoU8
  have ht : Try.prog.underlying 26 = some (.slice (Try.prog.elem 26)) := by simp [Program.elem, Try.underlying26]
  have he : Try.prog.elem 26 = 5 := by simp [Program.elem, Try.underlying26]
  rw [run_slice_l w 26 A n c ht .i64 (i : Int) (by omega) (by omega), he]
  simp [sizeOf, typeInfo, hi0, hz1, Result.andThen, sliced]
theorem IsB.fromB {w : World} {A : Option Addr} {n c : Nat} {l : List UInt8} (h : IsB w A n c l) {i : Nat} (hi : i ≤ n) : IsB w (if c = i then A else A.map (·.add i)) (n - i) (c - i) (l.drop i) := by
  have hc := h.cap
  refine ⟨by rw [List.length_drop, h.len], by omega, fun e => ?_, ?_⟩
  · by_cases hci : c = i
    · omega
    · rw [if_neg hci] at e
      cases A with
      | none => have := h.none_ rfl; omega
      | some a => simp at e
  · rcases h.src with rfl | ⟨b, o, rfl, hcl⟩
    · exact .inl (List.drop_nil ..)
    · by_cases hci : c = i
      · left
        apply List.eq_nil_of_length_eq_zero
        rw [List.length_drop, h.len]; omega
      · rw [if_neg hci]
        refine .inr ⟨b, o + i, ?_, fun j u hj => ?_⟩
        · simp [Addr.add_lit]
        · rw [List.getElem?_drop] at hj
          have := hcl (i + j) u hj
          rwa [← Nat.add_assoc] at this
/-- what an argument holds, in a world that the law has come to -/
theorem IsB.belowB {w0 w : World} {A : Option Addr} {n c : Nat} {l : List UInt8} (h : IsB w0 A n c l) (hb : Below w0.heap.size w0 w) : IsB w A n c l := h.below hb

section
variable {w0 w : World} {a : Nat} {s : St}
theorem s_read2 (h : Sess w0 w a s) (nm : ByteArray) (hnm : nm.size ≤ maxLen) {l : List UInt8} {er : Nat} (he : s.read nm.data.toList = (l, er)) :
    Calls Try.prog 16 #[.pointer (some ⟨a, 0, none⟩), .string nm] w fun e w' =>
      ∃ A n c, e = .returned (.tuple #[.slice A n c, .int .i64 (er : Int)]) ∧ IsB w' A n c l ∧ Sess w0 w' a s ∧ Below w.heap.size w w' := by
  have hS := h
  obtain ⟨F, hd, hf, h0⟩ := h
  refine (read_any hd nm hnm).mono ?_
  rw [he]
  rintro e w' ⟨v, rfl, ho, hb⟩
  obtain ⟨A, c, rfl, hI, _⟩ := own_is ho
  exact ⟨A, _, c, rfl, hI, hS.below hb, hb⟩
theorem s_list2 (h : Sess w0 w a s) : Calls Try.prog 27 #[.pointer (some ⟨a, 0, none⟩)] w fun e w' =>
    ∃ A c, e = .returned (.slice A s.fs.length c) ∧ Sess w0 w' a s ∧ Below w.heap.size w w' := by
  have hS := h
  obtain ⟨F, hd, hf, h0⟩ := h
  refine (list_any hd).mono ?_
  rintro e w' ⟨v, rfl, hn, hb⟩
  obtain ⟨A, c, rfl, _⟩ := hn.at_
  rw [List.length_map]
  exact ⟨A, c, rfl, hS.below hb, hb⟩
end

def rn (fs : List (Nm × Fc)) : St := ⟨1000, fs, none, false⟩
theorem rn1 (o : List UInt8) (h : o.length ≤ 200) : (St.new 1000).append [98] o = (rn [([98], (o, 0))], 0) := by
  unfold St.append
  rw [if_neg (by simp [St.new]), if_neg (by decide), if_neg (by rintro (h1 | ⟨_, h1⟩) <;> first | (have h2 : (St.new 1000).used = 0 := rfl; have h3 : (St.new 1000).most = 1000 := rfl; omega) | (simp [St.new] at h1))]
  rfl
theorem rn2 (o : List UInt8) : (rn [([98], (o, 0))]).sync [98] = (rn [([98], (o, o.length))], 0) := rfl
theorem rn3 (o p : List UInt8) (k : Nat) (h : o.length ≤ 200) (hp : p.length ≤ 200) : (rn [([98], (o, k))]).append [97] p = (rn [([97], (p, 0)), ([98], (o, k))], 0) := by
  unfold St.append
  rw [if_neg (by simp [rn]), if_neg (by decide), if_neg (by rintro (h1 | ⟨_, h1⟩) <;> first | (have h2 : (rn [([98], (o, k))]).used = o.length + 0 := rfl; have h3 : (rn [([98], (o, k))]).most = 1000 := rfl; omega) | (simp [rn] at h1))]
  rfl
theorem rn4 (o p : List UInt8) (k : Nat) : (rn [([97], (p, 0)), ([98], (o, k))]).sync [97] = (rn [([97], (p, p.length)), ([98], (o, k))], 0) := rfl
theorem rn5 (o p q : List UInt8) (j k : Nat) (h : o.length ≤ 200) (hp : p.length + q.length ≤ 200) : (rn [([97], (p, j)), ([98], (o, k))]).append [97] q = (rn [([97], (p ++ q, j)), ([98], (o, k))], 0) := by
  unfold St.append
  rw [if_neg (by simp [rn]), if_neg (by decide), if_neg (by rintro (h1 | ⟨_, h1⟩) <;> first | (have h2 : (rn [([97], (p, j)), ([98], (o, k))]).used = p.length + (o.length + 0) := rfl; have h3 : (rn [([97], (p, j)), ([98], (o, k))]).most = 1000 := rfl; omega) | (simp [rn] at h1))]
  rfl
theorem rn6 (o p : List UInt8) (j k : Nat) : (rn [([97], (p, j)), ([98], (o, k))]).rename [97] [98] = (rn [([98], (p, j))], 0) := rfl

set_option maxRecDepth 100000 in
set_option maxHeartbeats 2000000 in
theorem rename_walk (w : World) (A : Option Addr) (n c : Nat) (l : List UInt8) (A2 : Option Addr) (n2 c2 : Nat) (l2 : List UInt8) (x y : Nat) (hI : IsB w A n c l) (hI2 : IsB w A2 n2 c2 l2) (hn : n ≤ maxLen) (hn2 : n2 ≤ maxLen) (hx : x < 256) (hy : y < 256) :
    Calls Try.prog 12 #[.slice A n c, .slice A2 n2 c2, .int .u8 (x : Int), .int .u8 (y : Int)] w fun e w' => e = .returned (.bool true) ∧ Below w.heap.size w w' := by
  unfold maxLen at hn hn2
  have hl := hI.len
  have hl2 := hI2.len
  have hcap := hI.cap
  have HL := Lib.hid hl
  have HL2 := Lib.hid hl2
  clear hl hl2
  by_cases h200 : 200 < n ∨ 200 < n2
  · rcases h200 with h200 | h200
    · go_enter Try.func12, Try.ntmps12
      go_wp2_with fail
      refine (s_new 1000 (by omega) (Below.refl _ _)).mono ?_
      rintro e w1 ⟨a, rfl, h⟩
      go_wp2_with fail
      refine (awake2_any _).mono ?_
      rintro e w2 ⟨rfl, hb⟩
      go_wp2_with fail
      go_ret
      exact ⟨rfl, bst h.bel hb⟩
    · by_cases h201 : 200 < n
      all_goals
        go_enter Try.func12, Try.ntmps12
        go_wp2_with fail
        refine (s_new 1000 (by omega) (Below.refl _ _)).mono ?_
        rintro e w1 ⟨a, rfl, h⟩
        go_wp2_with fail
        refine (awake2_any _).mono ?_
        rintro e w2 ⟨rfl, hb⟩
        go_wp2_with fail
        go_ret
        exact ⟨rfl, bst h.bel hb⟩
  · have hn200 : n ≤ 200 := by omega
    have hn2200 : n2 ≤ 200 := by omega
    clear h200
    obtain ⟨k, hk⟩ : ∃ k, x % (n + 1) = k := ⟨_, rfl⟩
    have hkn : k ≤ n := by have := Nat.mod_lt x (show 0 < n + 1 by omega); omega
    have hkI : (x : Int) % ((n : Int) + 1) = (k : Int) := by rw [← hk]; simp
    clear hk
    have hT1 := hI.toB hkn
    have hT2 := hI.fromB hkn
    have hto := fun w => run_toB w A n c k (by omega)
    have hfr := fun w => run_fromB w A n c k hkn
    generalize hAA : (if c = k then A else A.map (·.add k)) = A3 at hT2 hfr
    clear hAA
    generalize hcc : c - k = c3 at hT2 hfr
    clear hcc
    obtain ⟨m3, hm3⟩ : ∃ m, n - k = m := ⟨_, rfl⟩
    rw [hm3] at hT2 hfr
    have hm3' : m3 ≤ 200 := by omega
    have htl : (l.take k).length = k := by rw [List.length_take, HL.out]; omega
    have hdl : (l.drop k).length = n - k := by rw [List.length_drop, HL.out]
    have HE1 := Lib.hid (rn1 l2 (by rw [HL2.out]; omega))
    have HE2 := Lib.hid (rn2 l2)
    have HE3 := Lib.hid (rn3 l2 (l.take k) l2.length (by rw [HL2.out]; omega) (by omega))
    have HE4 := Lib.hid (rn4 l2 (l.take k) l2.length)
    have HE5 := Lib.hid (rn5 l2 (l.take k) (l.drop k) (l.take k).length l2.length (by rw [HL2.out]; omega) (by omega))
    have HE6 := Lib.hid (rn6 l2 (l.take k ++ l.drop k) (l.take k).length l2.length)
    have HTL := Lib.hid htl
    clear htl hdl hm3
    go_enter Try.func12, Try.ntmps12
    go_wp2_with fail
    refine (s_new 1000 (by omega) (Below.refl _ _)).mono ?_
    rintro e w1 ⟨a, rfl, h1⟩
    go_wp2_with fail
    refine wp_region_held_drew (S := fun _ => True) (by kernel_rfl) trivial (fun hHeld => ?_)
    have h := h1.drew
    clear h1
    refine wpAnyH_take (i := 0) (v := ?_) rfl (by kernel_rfl) (by kernel_rfl) (by kernel_rfl) (fun _ _ _ h => h) (Or.inl ⟨by rfl, ?_⟩) hHeld ?_
    rotate_left
    · (intro w hSw; (try dsimp only at hSw); go_simp <;> rfl)
    simp only [Act.put, List.getElem_toArray, List.getElem_cons_zero, List.getElem_cons_succ, List.setIfInBounds_toArray, List.set_cons_zero, List.set_cons_succ]
    refine wpAnyH_take (i := 1) (v := ?_) rfl (by kernel_rfl) (by kernel_rfl) (by kernel_rfl) (fun _ _ _ h => h) (Or.inl ⟨by rfl, ?_⟩) hHeld ?_
    rotate_left
    · (intro w hSw; (try dsimp only at hSw); go_simp <;> rfl)
    simp only [Act.put, List.getElem_toArray, List.getElem_cons_zero, List.getElem_cons_succ, List.setIfInBounds_toArray, List.set_cons_zero, List.set_cons_succ]
    refine wpAnyH_take (i := 3) (v := ?_) rfl (by kernel_rfl) (by kernel_rfl) (by kernel_rfl) (fun _ _ _ h => h) (Or.inl ⟨by rfl, ?_⟩) hHeld ?_
    rotate_left
    · (intro w hSw; (try dsimp only at hSw); go_simp <;> rfl)
    simp only [Act.put, List.getElem_toArray, List.getElem_cons_zero, List.getElem_cons_succ, List.setIfInBounds_toArray, List.set_cons_zero, List.set_cons_succ]
    refine wpAnyH_take (i := 6) (v := ?_) rfl (by kernel_rfl) (by kernel_rfl) (by kernel_rfl) (fun _ _ _ h => h) (Or.inl ⟨by rfl, ?_⟩) hHeld ?_
    rotate_left
    · (intro w hSw; (try dsimp only at hSw); go_simp <;> rfl)
    simp only [Act.put, List.getElem_toArray, List.getElem_cons_zero, List.getElem_cons_succ, List.setIfInBounds_toArray, List.set_cons_zero, List.set_cons_succ]
    refine wpAnyH_take (i := 7) (v := ?_) rfl (by kernel_rfl) (by kernel_rfl) (by kernel_rfl) (fun _ _ _ h => h) (Or.inl ⟨by rfl, ?_⟩) hHeld ?_
    rotate_left
    · (intro w hSw; (try dsimp only at hSw); go_simp <;> rfl)
    simp only [Act.put, List.getElem_toArray, List.getElem_cons_zero, List.getElem_cons_succ, List.setIfInBounds_toArray, List.set_cons_zero, List.set_cons_succ]
    refine wpAnyH_take (i := 8) (v := ?_) rfl (by kernel_rfl) (by kernel_rfl) (by kernel_rfl) (fun _ _ _ h => h) (Or.inl ⟨by rfl, ?_⟩) hHeld ?_
    rotate_left
    · (intro w hSw; (try dsimp only at hSw); go_simp <;> rfl)
    simp only [Act.put, List.getElem_toArray, List.getElem_cons_zero, List.getElem_cons_succ, List.setIfInBounds_toArray, List.set_cons_zero, List.set_cons_succ]
    refine wpAnyH_take (i := 12) (v := ?_) rfl (by kernel_rfl) (by kernel_rfl) (by kernel_rfl) (fun _ _ _ h => h) (Or.inl ⟨by rfl, ?_⟩) hHeld ?_
    rotate_left
    · (intro w hSw; (try dsimp only at hSw); go_simp <;> rfl)
    simp only [Act.put, List.getElem_toArray, List.getElem_cons_zero, List.getElem_cons_succ, List.setIfInBounds_toArray, List.set_cons_zero, List.set_cons_succ]
    refine wpAnyH_take (i := 15) (v := ?_) rfl (by kernel_rfl) (by kernel_rfl) (by kernel_rfl) (fun _ _ _ h => h) (Or.inl ⟨by rfl, ?_⟩) hHeld ?_
    rotate_left
    · (intro w hSw; (try dsimp only at hSw); go_simp <;> rfl)
    simp only [Act.put, List.getElem_toArray, List.getElem_cons_zero, List.getElem_cons_succ, List.setIfInBounds_toArray, List.set_cons_zero, List.set_cons_succ]
    refine wpAnyH_take (i := 16) (v := ?_) rfl (by kernel_rfl) (by kernel_rfl) (by kernel_rfl) (fun _ _ _ h => h) (Or.inl ⟨by rfl, ?_⟩) hHeld ?_
    rotate_left
    · (intro w hSw; (try dsimp only at hSw); go_simp <;> rfl)
    simp only [Act.put, List.getElem_toArray, List.getElem_cons_zero, List.getElem_cons_succ, List.setIfInBounds_toArray, List.set_cons_zero, List.set_cons_succ]
    refine wpAnyH_take (i := 17) (v := ?_) rfl (by kernel_rfl) (by kernel_rfl) (by kernel_rfl) (fun _ _ _ h => h) (Or.inl ⟨by rfl, ?_⟩) hHeld ?_
    rotate_left
    · (intro w hSw; (try dsimp only at hSw); go_simp <;> rfl)
    simp only [Act.put, List.getElem_toArray, List.getElem_cons_zero, List.getElem_cons_succ, List.setIfInBounds_toArray, List.set_cons_zero, List.set_cons_succ]
    refine wpAnyH_take (i := 21) (v := ?_) rfl (by kernel_rfl) (by kernel_rfl) (by kernel_rfl) (fun _ _ _ h => h) (Or.inl ⟨by rfl, ?_⟩) hHeld ?_
    rotate_left
    · (intro w hSw; (try dsimp only at hSw); go_simp <;> rfl)
    simp only [Act.put, List.getElem_toArray, List.getElem_cons_zero, List.getElem_cons_succ, List.setIfInBounds_toArray, List.set_cons_zero, List.set_cons_succ]
    refine wpAnyH_take (i := 9) (v := ?_) rfl (by kernel_rfl) (by kernel_rfl) (by kernel_rfl) (fun _ _ _ h => h) (Or.inl ⟨by rfl, ?_⟩) hHeld ?_
    rotate_left
    · (intro w hSw; (try dsimp only at hSw); go_simp <;> rfl)
    simp only [Act.put, List.getElem_toArray, List.getElem_cons_zero, List.getElem_cons_succ, List.setIfInBounds_toArray, List.set_cons_zero, List.set_cons_succ]
    refine wpAnyH_take (i := 18) (v := ?_) rfl (by kernel_rfl) (by kernel_rfl) (by kernel_rfl) (fun _ _ _ h => h) (Or.inl ⟨by rfl, ?_⟩) hHeld ?_
    rotate_left
    · (intro w hSw; (try dsimp only at hSw); go_simp <;> rfl)
    simp only [Act.put, List.getElem_toArray, List.getElem_cons_zero, List.getElem_cons_succ, List.setIfInBounds_toArray, List.set_cons_zero, List.set_cons_succ]
    refine wpAnyH_ready (rs := [2]) (by kernel_rfl) (by simp) ?_
    refine AllReadyH.cons rfl (fun K hK => ?_) AllReadyH.nil
    go_simp
    refine (s_append h ⟨#[98]⟩ (by decide) (hI2.belowB h.bel) (by unfold maxLen; omega) HE1.out).mono ?_
    rintro ex wn ⟨rfl, h⟩
    dsimp only
    refine hK.out _ _ trivial (fun hHeld => ?_)
    clear hK K
    try simp only [Act.put, List.getElem_toArray, List.getElem_cons_zero, List.getElem_cons_succ, List.setIfInBounds_toArray, List.set_cons_zero, List.set_cons_succ]
    refine wpAnyH_ready (rs := [4]) (by kernel_rfl) (by simp) ?_
    refine AllReadyH.cons rfl (fun K hK => ?_) AllReadyH.nil
    go_simp
    refine (s_sync h ⟨#[98]⟩ (by decide) HE2.out).mono ?_
    rintro ex wn ⟨rfl, h⟩
    dsimp only
    refine hK.out _ _ trivial (fun hHeld => ?_)
    clear hK K
    try simp only [Act.put, List.getElem_toArray, List.getElem_cons_zero, List.getElem_cons_succ, List.setIfInBounds_toArray, List.set_cons_zero, List.set_cons_succ]
    refine wpAnyH_take (i := 5) (v := ?_) rfl (by kernel_rfl) (by kernel_rfl) (by kernel_rfl) (fun _ _ _ h => h) (Or.inl ⟨by rfl, ?_⟩) hHeld ?_
    rotate_left
    · (intro w hSw; (try dsimp only at hSw); go_simp <;> rfl)
    simp only [Act.put, List.getElem_toArray, List.getElem_cons_zero, List.getElem_cons_succ, List.setIfInBounds_toArray, List.set_cons_zero, List.set_cons_succ]
    refine wpAnyH_ready (rs := [10]) (by kernel_rfl) (by simp) ?_
    refine AllReadyH.cons rfl (fun K hK => ?_) AllReadyH.nil
    go_simp
    refine (s_append h ⟨#[97]⟩ (by decide) (hT1.belowB h.bel) (by unfold maxLen; omega) HE3.out).mono ?_
    rintro ex wn ⟨rfl, h⟩
    dsimp only
    refine hK.out _ _ trivial (fun hHeld => ?_)
    clear hK K
    try simp only [Act.put, List.getElem_toArray, List.getElem_cons_zero, List.getElem_cons_succ, List.setIfInBounds_toArray, List.set_cons_zero, List.set_cons_succ]
    refine wpAnyH_take (i := 11) (v := ?_) rfl (by kernel_rfl) (by kernel_rfl) (by kernel_rfl) (fun _ _ _ h => h) (Or.inl ⟨by rfl, ?_⟩) hHeld ?_
    rotate_left
    · (intro w hSw; (try dsimp only at hSw); go_simp <;> rfl)
    simp only [Act.put, List.getElem_toArray, List.getElem_cons_zero, List.getElem_cons_succ, List.setIfInBounds_toArray, List.set_cons_zero, List.set_cons_succ]
    refine wpAnyH_ready (rs := [13]) (by kernel_rfl) (by simp) ?_
    refine AllReadyH.cons rfl (fun K hK => ?_) AllReadyH.nil
    go_simp
    refine (s_sync h ⟨#[97]⟩ (by decide) HE4.out).mono ?_
    rintro ex wn ⟨rfl, h⟩
    dsimp only
    refine hK.out _ _ trivial (fun hHeld => ?_)
    clear hK K
    try simp only [Act.put, List.getElem_toArray, List.getElem_cons_zero, List.getElem_cons_succ, List.setIfInBounds_toArray, List.set_cons_zero, List.set_cons_succ]
    refine wpAnyH_take (i := 14) (v := ?_) rfl (by kernel_rfl) (by kernel_rfl) (by kernel_rfl) (fun _ _ _ h => h) (Or.inl ⟨by rfl, ?_⟩) hHeld ?_
    rotate_left
    · (intro w hSw; (try dsimp only at hSw); go_simp <;> rfl)
    simp only [Act.put, List.getElem_toArray, List.getElem_cons_zero, List.getElem_cons_succ, List.setIfInBounds_toArray, List.set_cons_zero, List.set_cons_succ]
    refine wpAnyH_ready (rs := [19]) (by kernel_rfl) (by simp) ?_
    refine AllReadyH.cons rfl (fun K hK => ?_) AllReadyH.nil
    go_simp
    refine (s_append h ⟨#[97]⟩ (by decide) (hT2.belowB h.bel) (by unfold maxLen; omega) HE5.out).mono ?_
    rintro ex wn ⟨rfl, h⟩
    dsimp only
    refine hK.out _ _ trivial (fun hHeld => ?_)
    clear hK K
    try simp only [Act.put, List.getElem_toArray, List.getElem_cons_zero, List.getElem_cons_succ, List.setIfInBounds_toArray, List.set_cons_zero, List.set_cons_succ]
    refine wpAnyH_take (i := 20) (v := ?_) rfl (by kernel_rfl) (by kernel_rfl) (by kernel_rfl) (fun _ _ _ h => h) (Or.inl ⟨by rfl, ?_⟩) hHeld ?_
    rotate_left
    · (intro w hSw; (try dsimp only at hSw); go_simp <;> rfl)
    simp only [Act.put, List.getElem_toArray, List.getElem_cons_zero, List.getElem_cons_succ, List.setIfInBounds_toArray, List.set_cons_zero, List.set_cons_succ]
    refine wpAnyH_ready (rs := [22]) (by kernel_rfl) (by simp) ?_
    refine AllReadyH.cons rfl (fun K hK => ?_) AllReadyH.nil
    go_simp
    refine (s_rename h ⟨#[97]⟩ (by decide) ⟨#[98]⟩ (by decide) HE6.out).mono ?_
    rintro ex wn ⟨rfl, h⟩
    dsimp only
    refine hK.out _ _ trivial (fun hHeld => ?_)
    clear hK K
    try simp only [Act.put, List.getElem_toArray, List.getElem_cons_zero, List.getElem_cons_succ, List.setIfInBounds_toArray, List.set_cons_zero, List.set_cons_succ]
    refine wpAnyH_take (i := 23) (v := ?_) rfl (by kernel_rfl) (by kernel_rfl) (by kernel_rfl) (fun _ _ _ h => h) (Or.inl ⟨by rfl, ?_⟩) hHeld ?_
    rotate_left
    · (intro w hSw; (try dsimp only at hSw); go_simp <;> rfl)
    simp only [Act.put, List.getElem_toArray, List.getElem_cons_zero, List.getElem_cons_succ, List.setIfInBounds_toArray, List.set_cons_zero, List.set_cons_succ]
    refine wpAnyH_take (i := 24) (v := ?_) rfl (by kernel_rfl) (by kernel_rfl) (by kernel_rfl) (fun _ _ _ h => h) (Or.inl ⟨by rfl, ?_⟩) hHeld ?_
    rotate_left
    · (intro w hSw; (try dsimp only at hSw); go_simp <;> rfl)
    simp only [Act.put, List.getElem_toArray, List.getElem_cons_zero, List.getElem_cons_succ, List.setIfInBounds_toArray, List.set_cons_zero, List.set_cons_succ]
    refine wpAnyH_done (by kernel_rfl) ?_ _
    clear hHeld
    rw [List.take_append_drop, HTL.out] at h
    obtain ⟨q, hq⟩ : ∃ q, kept (l, k) [(y : Int)] 0 = q := ⟨_, rfl⟩
    have hq2 : q = k + min y (n - k) := by rw [← hq]; unfold kept; simp [HL.out]
    have hqn : q ≤ n := by omega
    have hmin : min ((k : Int) + (y : Int)) (n : Int) = (q : Int) := by omega
    have hcr : (rn [([98], (l, k))]).crash [(y : Int)] = rn [([98], (l.take q, q))] := by rw [← hq]; rfl
    have HCR := Lib.hid hcr
    have hto2 := fun w => run_toB w A n c q (by omega)
    have hTq := hI.toB hqn
    clear hq hq2 hcr HE1 HE2 HE3 HE4 HE5 HE6 hto hfr
    go_wp2_with fail
    refine (s_crash h ((Below.refl _ _).alloc (Nat.le_refl _) _) (ints_lit wn [(y : Int)] #[.int .i64 (y : Int)] 3 1 rfl rfl (by intro z hz; simp at hz; omega)) (by decide) (fun ad e _ => by cases e; exact .inl (Nat.le_refl _))).mono ?_
    rintro e w6 ⟨rfl, h⟩
    rw [HCR.out] at h
    go_wp2_with fail
    refine (s_read2 h ⟨#[98]⟩ (by decide) (l := l.take q) (er := 0) rfl).mono ?_
    rintro e w7 ⟨A7, n7, c7, rfl, hI7, h, _⟩
    go_wp2_with fail
    refine (s_read2 h ⟨#[97]⟩ (by decide) (l := []) (er := 13) rfl).mono ?_
    rintro e w8 ⟨A8, n8, c8, rfl, _, h, hb8⟩
    replace hI7 := hI7.below hb8
    clear hb8
    go_wp2_with fail
    refine (s_list2 h).mono ?_
    rintro e w9 ⟨A9, c9, rfl, h, hb9⟩
    replace hI7 := hI7.below hb9
    clear hb9
    go_wp2_with fail
    refine (samebytes_any hI7 (hTq.belowB h.bel)).mono ?_
    rintro e w10 ⟨rfl, rfl⟩
    rw [decide_eq_true rfl]
    go_wp2_with fail
    refine (awake2_any _).mono ?_
    rintro e w11 ⟨rfl, hb⟩
    go_wp2_with fail
    go_ret
    exact ⟨rfl, bst h.bel hb⟩
end Go.Proofs.Ytdcflgblaljdeaa
