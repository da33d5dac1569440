/-
  The chapter's examples come out as written.
-/
import Derived.Test.YtebpdlggkncliaaKDkTexts
import Derived.Lib.SlBytesConst
import Derived.Test.YtebpdlggkncliaaRep
set_option linter.unusedVariables false
set_option linter.unusedSimpArgs false
namespace Go.Proofs.Ytebpdlggkncliaa
open Go.RowKit Go.Maps

theorem bytes_lit (w : World) (l : List UInt8) (cs : Array Value) (t : TypeId) (fr : Nat × Nat) (m : Nat) (h : cs = (Go.Lib.byteCells l).toArray) (hm : l.length = m) : IsB (w.alloc (.cells cs t fr)) (some ⟨w.heap.size, 0, none⟩) m m l := by
  subst h; subst hm
  refine ⟨rfl, Nat.le_refl _, (fun h => by cases h), .inr ⟨_, _, rfl, fun j z hj => ?_⟩⟩
  rw [cell_of_row _ _ _ _ _ _ (heap_alloc_new w _)]
  simp [Go.Lib.byteCells, hj]
theorem ints_lit (w : World) (l : List Int) (cs : Array Value) (t : TypeId) (m : Nat) (h : cs = (l.map (Value.int .i64)).toArray) (hm : l.length = m) (hr : ∀ z ∈ l, -9223372036854775808 ≤ z ∧ z ≤ 9223372036854775807) : IsI (w.alloc (.cells cs t)) (some ⟨w.heap.size, 0, none⟩) m m l := by
  subst h; subst hm
  exact ints_new w l t hr
theorem strs_lit (w : World) (l : List Nm) (cs : Array Value) (t : TypeId) (m : Nat) (h : cs = (l.map fun x => Value.string ⟨x.toArray⟩).toArray) (hm : l.length = m) : IsN (w.alloc (.cells cs t)) (some ⟨w.heap.size, 0, none⟩) m m l := by
  subst h; subst hm
  exact strs_new w l t

def ex (fs : List (Nm × Fc)) : St := ⟨100, fs, none, false⟩
theorem ex1 : (St.new 100).append [97] [120, 121, 122] = (ex [([97], ([120, 121, 122], 0))], 0) := by rfl
theorem ex2 : (ex [([97], ([120, 121, 122], 0))]).sync [97] = (ex [([97], ([120, 121, 122], 3))], 0) := by rfl
theorem ex3 : (ex [([97], ([120, 121, 122], 3))]).append [97] [117, 118] = (ex [([97], ([120, 121, 122, 117, 118], 3))], 0) := by rfl
theorem ex4 : (ex [([97], ([120, 121, 122, 117, 118], 3))]).append [98] [119] = (ex [([97], ([120, 121, 122, 117, 118], 3)), ([98], ([119], 0))], 0) := by rfl
theorem ex5 : (ex [([97], ([120, 121, 122, 117, 118], 3)), ([98], ([119], 0))]).crash [1] = ex [([97], ([120, 121, 122, 117], 4)), ([98], ([], 0))] := by rfl
theorem ex6 : (ex [([97], ([120, 121, 122, 117], 4)), ([98], ([], 0))]).rename [97] [98] = (ex [([98], ([120, 121, 122, 117], 4))], 0) := by rfl
theorem ex7 : (ex [([98], ([120, 121, 122, 117], 4))]).arm' 1 = ⟨100, [([98], ([120, 121, 122, 117], 4))], some 1, false⟩ := by rfl
theorem ex8 : (⟨100, [([98], ([120, 121, 122, 117], 4))], some 1, false⟩ : St).sync [98] = (⟨100, [([98], ([120, 121, 122, 117], 4))], some 0, false⟩, 0) := by rfl
theorem ex9 : (⟨100, [([98], ([120, 121, 122, 117], 4))], some 0, false⟩ : St).remove [98] = (⟨100, [([98], ([120, 121, 122, 117], 4))], none, true⟩, 15) := by rfl
theorem ex10 : (⟨100, [([98], ([120, 121, 122, 117], 4))], none, true⟩ : St).read [98] = ([], 15) := by rfl
theorem ex11 : (⟨100, [([98], ([120, 121, 122, 117], 4))], none, true⟩ : St).crash [] = ex [([98], ([120, 121, 122, 117], 4))] := by rfl
theorem ex12 : (ex [([98], ([120, 121, 122, 117], 4))]).append [65] [] = (ex [([98], ([120, 121, 122, 117], 4))], 13) := by rfl

set_option maxRecDepth 100000 in
set_option maxHeartbeats 2000000 in
theorem awake2_any (w : World) : Calls Try.prog 24 #[] w fun e w' => e = .returned (.bool true) ∧ Below w.heap.size w w' := by
  have hsame := fun (W : World) C n c => Lib.run_convert_bytes_const (P := Try.prog) W 26 5 C n c Try.underlying26 Try.underlying5
  go_enter Try.func24, Try.ntmps24
  go_wp2_with fail
  refine (s_new 100 (by omega) (Below.refl _ _)).mono ?_
  rintro e w1 ⟨a, rfl, h⟩
  go_wp2_with fail
  refine (s_append (h.alloc _) ⟨#[97]⟩ (by decide) (bytes_lit w1 [120, 121, 122] #[.int .u8 120, .int .u8 121, .int .u8 122] 5 (3, 4) 3 rfl rfl) (by decide) ex1).mono ?_
  rintro e w2 ⟨rfl, h⟩
  go_wp2_with fail
  refine (s_sync h ⟨#[97]⟩ (by decide) ex2).mono ?_
  rintro e w3 ⟨rfl, h⟩
  go_wp2_with fail
  refine (s_append (h.alloc _) ⟨#[97]⟩ (by decide) (bytes_lit w3 [117, 118] #[.int .u8 117, .int .u8 118] 5 (2, 3) 2 rfl rfl) (by decide) ex3).mono ?_
  rintro e w4 ⟨rfl, h⟩
  go_wp2_with fail
  refine (s_append (h.alloc _) ⟨#[98]⟩ (by decide) (bytes_lit w4 [119] #[.int .u8 119] 5 (1, 2) 1 rfl rfl) (by decide) ex4).mono ?_
  rintro e w5 ⟨rfl, h⟩
  go_wp2_with fail
  refine (s_size h ⟨#[97]⟩ (by decide) (n := 5) rfl).mono ?_
  rintro e w6 ⟨rfl, rfl⟩
  go_wp2_with fail
  refine (s_synced h ⟨#[97]⟩ (by decide) (n := 3) rfl).mono ?_
  rintro e w6 ⟨rfl, rfl⟩
  go_wp2_with fail
  refine (s_used h (n := 6) rfl).mono ?_
  rintro e w6 ⟨rfl, rfl⟩
  go_wp2_with fail
  refine (s_crash h ((Below.refl _ _).alloc (Nat.le_refl _) _) (ints_lit w5 [1] #[.int .i64 1] 3 1 rfl rfl (by decide)) (by decide) (fun ad e _ => by cases e; exact .inl (Nat.le_refl _))).mono ?_
  rintro e w6 ⟨rfl, h⟩
  rw [ex5] at h
  go_wp2_with fail
  refine (reads_true h ⟨#[97]⟩ ⟨#[120, 121, 122, 117]⟩ (by decide) rfl (L := [120, 121, 122, 117]) rfl (k := 4) rfl).mono ?_
  rintro e w7 ⟨rfl, h⟩
  go_wp2_with fail
  refine (reads_true h ⟨#[98]⟩ ⟨#[]⟩ (by decide) rfl (L := []) rfl (k := 0) rfl).mono ?_
  rintro e w8 ⟨rfl, h⟩
  go_wp2_with fail
  refine (s_rename h ⟨#[97]⟩ (by decide) ⟨#[98]⟩ (by decide) ex6).mono ?_
  rintro e w9 ⟨rfl, h⟩
  go_wp2_with fail
  refine (s_list h).mono ?_
  rintro e w10 ⟨A, c, rfl, hN, h⟩
  go_wp2_with fail
  refine (sametexts_any (hN.isN.below ((Below.refl _ _).alloc (Nat.le_refl _) _)) (strs_lit w10 [[98]] #[.string ⟨#[98]⟩] 9 1 rfl rfl) (by decide) (by decide)).mono ?_
  rintro e w11 ⟨rfl, hb⟩
  replace h := (h.alloc _).below hb
  rw [show decide ((ex [([98], ([120, 121, 122, 117], 4))]).fs.map (·.1) = [[98]]) = true by decide]
  clear hb hN
  go_wp2_with fail
  refine (reads_true h ⟨#[98]⟩ ⟨#[120, 121, 122, 117]⟩ (by decide) rfl (L := [120, 121, 122, 117]) rfl (k := 4) rfl).mono ?_
  rintro e w12 ⟨rfl, h⟩
  go_wp2_with fail
  refine (s_arm h 1 (by decide) (by decide)).mono ?_
  rintro e w13 ⟨rfl, h⟩
  rw [ex7] at h
  go_wp2_with fail
  refine (s_sync h ⟨#[98]⟩ (by decide) ex8).mono ?_
  rintro e w14 ⟨rfl, h⟩
  go_wp2_with fail
  refine (s_remove h ⟨#[98]⟩ (by decide) ex9).mono ?_
  rintro e w15 ⟨rfl, h⟩
  go_wp2_with fail
  refine (s_read h ⟨#[98]⟩ (by decide) ex10).mono ?_
  rintro e w16 ⟨A2, n2, c2, rfl, _, _, h⟩
  go_wp2_with fail
  refine (s_down h (b := true) rfl).mono ?_
  rintro e w17 ⟨rfl, rfl⟩
  go_wp2_with fail
  refine (s_crash h (Below.refl _ _) (ints_nil _) (by decide) (fun ad e _ => by cases e)).mono ?_
  rintro e w17 ⟨rfl, h⟩
  rw [ex11] at h
  go_wp2_with fail
  refine (reads_true h ⟨#[98]⟩ ⟨#[120, 121, 122, 117]⟩ (by decide) rfl (L := [120, 121, 122, 117]) rfl (k := 4) rfl).mono ?_
  rintro e w18 ⟨rfl, h⟩
  go_wp2_with fail
  refine (s_append h ⟨#[65]⟩ (by decide) (IsB.nil _) (by decide) ex12).mono ?_
  rintro e w19 ⟨rfl, h⟩
  go_wp2_with fail
  go_ret
  exact ⟨rfl, h.bel⟩
end Go.Proofs.Ytebpdlggkncliaa

/-
  Two hundred files: their names, and the disk that has them.
-/
set_option linter.unusedVariables false
set_option linter.unusedSimpArgs false
namespace Go.Proofs.Ytebpdlggkncliaa
open Go.RowKit Go.Maps

/-- the name of the file number i -/
def nmI (i : Nat) : Nm := 102 :: (List.replicate (i / 10) 48 ++ [(97 + i % 10).toUInt8])
theorem nmI_len (i : Nat) : (nmI i).length = i / 10 + 2 := by simp [nmI]
theorem nmI_last (i : Nat) : (nmI i).getLast? = some (97 + i % 10).toUInt8 := by
  unfold nmI
  rw [← List.cons_append, List.getLast?_append]
  rfl
theorem u8_back {n : Nat} (h : n < 256) : n.toUInt8.toNat = n := by
  show (UInt8.ofNat n).toNat = n
  rw [UInt8.toNat_ofNat']
  omega
theorem nmI_inj {i j : Nat} (h : nmI i = nmI j) : i = j := by
  have h1 := congrArg List.length h
  have h2 := congrArg List.getLast? h
  rw [nmI_len, nmI_len] at h1
  rw [nmI_last, nmI_last] at h2
  have h3 := congrArg UInt8.toNat (Option.some.inj h2)
  rw [u8_back (by omega), u8_back (by omega)] at h3
  omega
theorem nmI_head (i : Nat) : (nmI i).head? = some 102 := rfl
theorem mayC_digit {k : Nat} (h : k < 10) : mayC (97 + k).toUInt8 = true := by
  have : ∀ k, k < 10 → mayC (97 + k).toUInt8 = true := by decide
  exact this k h
theorem nmI_right {i : Nat} (h : i < 200) : rightN (nmI i) = true := by
  unfold rightN
  have ha : (nmI i).all mayC = true := by
    rw [List.all_eq_true]
    intro x hx
    unfold nmI at hx
    rcases List.mem_cons.1 hx with rfl | hx
    · decide
    rcases List.mem_append.1 hx with hx | hx
    · obtain rfl := List.eq_of_mem_replicate hx
      decide
    · simp only [List.mem_cons, List.not_mem_nil, or_false] at hx
      subst hx
      exact mayC_digit (Nat.mod_lt _ (by decide))
  rw [ha, nmI_len]
  simp
  omega
def Fs : Nat → List (Nm × Fc)
  | 0 => []
  | i + 1 => aput (nmI i) ([], 0) (Fs i)
def sN (i : Nat) : St := ⟨1000, Fs i, none, false⟩
theorem Fs_mem : ∀ (i : Nat) (p : Nm × Fc), p ∈ Fs i → ∃ j, j < i ∧ p = (nmI j, ([], 0))
  | 0, p, h => by cases h
  | i + 1, p, h => by
    rcases mem_aput.1 h with rfl | ⟨h, _⟩
    · exact ⟨i, Nat.lt_succ_self _, rfl⟩
    · obtain ⟨j, hj, e⟩ := Fs_mem i p h
      exact ⟨j, by omega, e⟩
theorem Fs_rise : ∀ i, Rising (Fs i)
  | 0 => List.Pairwise.nil
  | i + 1 => rising_aput (Fs_rise i) _ _
theorem Fs_none {i : Nat} {nm : Nm} (h : ∀ j, j < i → nmI j ≠ nm) : aget nm (Fs i) = none := by
  rw [aget_none]
  intro p hp
  obtain ⟨j, hj, rfl⟩ := Fs_mem i p hp
  exact h j hj
theorem Fs_new (i : Nat) : aget (nmI i) (Fs i) = none := Fs_none fun j hj e => by have := nmI_inj e; omega
theorem Fs_len : ∀ i, (Fs i).length = i
  | 0 => rfl
  | i + 1 => by
    have := alen_aput (Fs_rise i) (nmI i) ([], 0)
    rw [Fs_new, Fs_len i] at this
    show (aput (nmI i) ([], 0) (Fs i)).length = i + 1
    simpa using this
theorem Fs_used : ∀ i, asum (fun c : Fc => c.1.length) (Fs i) = 0
  | 0 => rfl
  | i + 1 => by
    have := asum_aput (g := fun c : Fc => c.1.length) (Fs_rise i) (nmI i) ([], 0)
    rw [Fs_new, Fs_used i] at this
    show asum (fun c : Fc => c.1.length) (aput (nmI i) ([], 0) (Fs i)) = 0
    simpa using this
theorem sN_used (i : Nat) : (sN i).used = 0 := Fs_used i
theorem sN_step {i : Nat} (h : i < 200) : (sN i).append (nmI i) [] = (sN (i + 1), 0) := by
  unfold St.append
  rw [if_neg (by show ¬ false = true; decide), if_neg (by rw [nmI_right h]; decide), if_neg]
  · unfold St.op sN
    dsimp only
    rw [Fs_new]
    rfl
  · rintro (h1 | ⟨_, h2⟩)
    · rw [sN_used] at h1
      exact absurd h1 (by show ¬ (1000 < 0 + 0); decide)
    · rw [show (sN i).fs = Fs i from rfl, Fs_len] at h2
      omega
theorem head_ne {j : Nat} {nm : Nm} (h : nm.head? ≠ some 102) : nmI j ≠ nm := fun e => h (by rw [← e]; rfl)
theorem sN_z {n : Nat} (h : n = 200) : (sN n).append [122] [] = (sN n, 5) := by
  have h1 : aget [122] (sN n).fs = none := Fs_none fun j hj => head_ne (by decide)
  have h2 : (sN n).fs.length = 200 := (Fs_len n).trans h
  unfold St.append
  rw [if_neg (by show ¬ false = true; decide), if_neg (by decide), if_pos (.inr ⟨h1, h2⟩)]
def sM (n : Nat) : St := ⟨1000, aput (nmI 0) ([49], 0) (Fs n), none, false⟩
theorem Fs_has : ∀ i, 0 < i → aget (nmI 0) (Fs i) = some ([], 0)
  | 0, h => absurd h (by decide)
  | i + 1, _ => by
    by_cases h0 : i = 0
    · subst h0
      exact aget_aput_same (Fs_rise 0) _ _
    · show aget (nmI 0) (aput (nmI i) ([], 0) (Fs i)) = _
      rw [aget_aput_other (Fs_rise i) (fun e => h0 (nmI_inj e).symm)]
      exact Fs_has i (by omega)
theorem sN_fa {n : Nat} (h : n = 200) : (sN n).append [102, 97] [49] = (sM n, 0) := by
  have hn : ([102, 97] : Nm) = nmI 0 := rfl
  have h1 : aget (nmI 0) (sN n).fs = some ([], 0) := Fs_has n (by omega)
  rw [hn]
  unfold St.append
  rw [if_neg (by show ¬ false = true; decide), if_neg (by rw [nmI_right (by decide)]; decide), if_neg]
  · rw [h1]
    rfl
  · rw [sN_used, h1]
    rintro (h2 | ⟨h2, _⟩)
    · exact absurd h2 (by show ¬ (1000 < 0 + 1); decide)
    · cases h2
theorem sM_len {n : Nat} (h : n = 200) : (sM n).fs.length = 200 := by
  have := alen_aput (Fs_rise n) (nmI 0) ([49], 0)
  rw [Fs_has n (by omega), Fs_len] at this
  have h2 : (aput (nmI 0) ([49], 0) (Fs n)).length = n := by simpa using this
  exact h2.trans h
theorem sM_a {n : Nat} (h : n = 200) (nm : Nm) (hm : nm = List.replicate 40 97) : (sM n).append nm [] = (sM n, 5) := by
  have hr : rightN nm = true := by rw [hm]; decide
  have hh : nm.head? ≠ some 102 := by rw [hm]; decide
  have h1 : aget nm (sM n).fs = none := by
    show aget nm (aput (nmI 0) ([49], 0) (Fs n)) = none
    rw [aget_aput_other (Fs_rise n) (fun e => head_ne hh e.symm)]
    exact Fs_none fun j _ => head_ne hh
  have h2 := sM_len h
  clear hm
  unfold St.append
  rw [if_neg (by show ¬ false = true; decide), if_neg (by rw [hr]; decide), if_pos (.inr ⟨h1, h2⟩)]
end Go.Proofs.Ytebpdlggkncliaa
