/-
  The chapter's examples come out as written.
-/
import Derived.Test.YtebpdlggkncliaaKDkTexts
import Derived.Lib.SlBytesConst
set_option linter.unusedVariables false
set_option linter.unusedSimpArgs false
namespace Go.Proofs.Ytebpdlggkncliaa
open Go.RowKit Go.Maps

theorem bytes_lit (w : World) (l : List UInt8) (cs : Array Value) (t : TypeId) (fr : Nat × Nat) (m : Nat) (h : cs = (Go.Lib.byteCells l).toArray) (hm : l.length = m) : IsB (w.alloc (.cells cs t fr)) (some ⟨w.heap.size, 0, none⟩) m m l := by
  subst h; subst hm
  refine ⟨rfl, Nat.le_refl _, (fun h => by cases h), .inr ⟨_, _, rfl, fun j z hj => ?_⟩⟩
  rw [cell_of_row _ _ _ _ _ _ (heap_alloc_new w _)]
  simp [Go.Lib.byteCells, hj]
theorem ints_lit (w : World) (l : List Int) (cs : Array Value) (t : TypeId) (m : Nat) (h : cs = (l.map (Value.int .i64)).toArray) (hm : l.length = m) (hr : ∀ z ∈ l, -9223372036854775808 ≤ z ∧ z ≤ 9223372036854775807) : IsI (w.alloc (.cells cs t)) (some ⟨w.heap.size, 0, none⟩) m m l := by
  subst h; subst hm
  exact ints_new w l t hr
theorem strs_lit (w : World) (l : List Nm) (cs : Array Value) (t : TypeId) (m : Nat) (h : cs = (l.map fun x => Value.string ⟨x.toArray⟩).toArray) (hm : l.length = m) : IsN (w.alloc (.cells cs t)) (some ⟨w.heap.size, 0, none⟩) m m l := by
  subst h; subst hm
  exact strs_new w l t

def ex (fs : List (Nm × Fc)) : St := ⟨100, fs, none, false⟩
theorem ex1 : (St.new 100).append [97] [120, 121, 122] = (ex [([97], ([120, 121, 122], 0))], 0) := by rfl
theorem ex2 : (ex [([97], ([120, 121, 122], 0))]).sync [97] = (ex [([97], ([120, 121, 122], 3))], 0) := by rfl
theorem ex3 : (ex [([97], ([120, 121, 122], 3))]).append [97] [117, 118] = (ex [([97], ([120, 121, 122, 117, 118], 3))], 0) := by rfl
theorem ex4 : (ex [([97], ([120, 121, 122, 117, 118], 3))]).append [98] [119] = (ex [([97], ([120, 121, 122, 117, 118], 3)), ([98], ([119], 0))], 0) := by rfl
theorem ex5 : (ex [([97], ([120, 121, 122, 117, 118], 3)), ([98], ([119], 0))]).crash [1] = ex [([97], ([120, 121, 122, 117], 4)), ([98], ([], 0))] := by rfl
theorem ex6 : (ex [([97], ([120, 121, 122, 117], 4)), ([98], ([], 0))]).rename [97] [98] = (ex [([98], ([120, 121, 122, 117], 4))], 0) := by rfl
theorem ex7 : (ex [([98], ([120, 121, 122, 117], 4))]).arm' 1 = ⟨100, [([98], ([120, 121, 122, 117], 4))], some 1, false⟩ := by rfl
theorem ex8 : (⟨100, [([98], ([120, 121, 122, 117], 4))], some 1, false⟩ : St).sync [98] = (⟨100, [([98], ([120, 121, 122, 117], 4))], some 0, false⟩, 0) := by rfl
theorem ex9 : (⟨100, [([98], ([120, 121, 122, 117], 4))], some 0, false⟩ : St).remove [98] = (⟨100, [([98], ([120, 121, 122, 117], 4))], none, true⟩, 15) := by rfl
theorem ex10 : (⟨100, [([98], ([120, 121, 122, 117], 4))], none, true⟩ : St).read [98] = ([], 15) := by rfl
theorem ex11 : (⟨100, [([98], ([120, 121, 122, 117], 4))], none, true⟩ : St).crash [] = ex [([98], ([120, 121, 122, 117], 4))] := by rfl
theorem ex12 : (ex [([98], ([120, 121, 122, 117], 4))]).append [65] [] = (ex [([98], ([120, 121, 122, 117], 4))], 13) := by rfl

set_option maxRecDepth 100000 in
set_option maxHeartbeats 2000000 in
theorem awake2_any (w : World) : Calls Try.prog 24 #[] w fun e w' => e = .returned (.bool true) ∧ Below w.heap.size w w' := by
  have hsame := fun (W : World) C n c => Lib.run_convert_bytes_const (P := Try.prog) W 26 5 C n c Try.underlying26 Try.underlying5
  go_enter Try.func24, Try.ntmps24
  go_wp2_with fail
  refine (s_new 100 (by omega) (Below.refl _ _)).mono ?_
  rintro e w1 ⟨a, rfl, h⟩
  go_wp2_with fail
  refine (s_append (h.alloc _) ⟨#[97]⟩ (by decide) (bytes_lit w1 [120, 121, 122] #[.int .u8 120, .int .u8 121, .int .u8 122] 5 (3, 4) 3 rfl rfl) (by decide) ex1).mono ?_
  rintro e w2 ⟨rfl, h⟩
  go_wp2_with fail
  refine (s_sync h ⟨#[97]⟩ (by decide) ex2).mono ?_
  rintro e w3 ⟨rfl, h⟩
  go_wp2_with fail
  refine (s_append (h.alloc _) ⟨#[97]⟩ (by decide) (bytes_lit w3 [117, 118] #[.int .u8 117, .int .u8 118] 5 (2, 3) 2 rfl rfl) (by decide) ex3).mono ?_
  rintro e w4 ⟨rfl, h⟩
  go_wp2_with fail
  refine (s_append (h.alloc _) ⟨#[98]⟩ (by decide) (bytes_lit w4 [119] #[.int .u8 119] 5 (1, 2) 1 rfl rfl) (by decide) ex4).mono ?_
  rintro e w5 ⟨rfl, h⟩
  go_wp2_with fail
  refine (s_size h ⟨#[97]⟩ (by decide) (n := 5) rfl).mono ?_
  rintro e w6 ⟨rfl, rfl⟩
  go_wp2_with fail
  refine (s_synced h ⟨#[97]⟩ (by decide) (n := 3) rfl).mono ?_
  rintro e w6 ⟨rfl, rfl⟩
  go_wp2_with fail
  refine (s_used h (n := 6) rfl).mono ?_
  rintro e w6 ⟨rfl, rfl⟩
  go_wp2_with fail
  refine (s_crash h ((Below.refl _ _).alloc (Nat.le_refl _) _) (ints_lit w5 [1] #[.int .i64 1] 3 1 rfl rfl (by decide)) (by decide) (fun ad e _ => by cases e; exact .inl (Nat.le_refl _))).mono ?_
  rintro e w6 ⟨rfl, h⟩
  rw [ex5] at h
  go_wp2_with fail
  refine (reads_true h ⟨#[97]⟩ ⟨#[120, 121, 122, 117]⟩ (by decide) rfl (L := [120, 121, 122, 117]) rfl (k := 4) rfl).mono ?_
  rintro e w7 ⟨rfl, h⟩
  go_wp2_with fail
  refine (reads_true h ⟨#[98]⟩ ⟨#[]⟩ (by decide) rfl (L := []) rfl (k := 0) rfl).mono ?_
  rintro e w8 ⟨rfl, h⟩
  go_wp2_with fail
  refine (s_rename h ⟨#[97]⟩ (by decide) ⟨#[98]⟩ (by decide) ex6).mono ?_
  rintro e w9 ⟨rfl, h⟩
  go_wp2_with fail
  refine (s_list h).mono ?_
  rintro e w10 ⟨A, c, rfl, hN, h⟩
  go_wp2_with fail
  refine (sametexts_any (hN.isN.below ((Below.refl _ _).alloc (Nat.le_refl _) _)) (strs_lit w10 [[98]] #[.string ⟨#[98]⟩] 9 1 rfl rfl) (by decide) (by decide)).mono ?_
  rintro e w11 ⟨rfl, hb⟩
  replace h := (h.alloc _).below hb
  rw [show decide ((ex [([98], ([120, 121, 122, 117], 4))]).fs.map (·.1) = [[98]]) = true by decide]
  clear hb hN
  go_wp2_with fail
  refine (reads_true h ⟨#[98]⟩ ⟨#[120, 121, 122, 117]⟩ (by decide) rfl (L := [120, 121, 122, 117]) rfl (k := 4) rfl).mono ?_
  rintro e w12 ⟨rfl, h⟩
  go_wp2_with fail
  refine (s_arm h 1 (by decide) (by decide)).mono ?_
  rintro e w13 ⟨rfl, h⟩
  rw [ex7] at h
  go_wp2_with fail
  refine (s_sync h ⟨#[98]⟩ (by decide) ex8).mono ?_
  rintro e w14 ⟨rfl, h⟩
  go_wp2_with fail
  refine (s_remove h ⟨#[98]⟩ (by decide) ex9).mono ?_
  rintro e w15 ⟨rfl, h⟩
  go_wp2_with fail
  refine (s_read h ⟨#[98]⟩ (by decide) ex10).mono ?_
  rintro e w16 ⟨A2, n2, c2, rfl, _, _, h⟩
  go_wp2_with fail
  refine (s_down h (b := true) rfl).mono ?_
  rintro e w17 ⟨rfl, rfl⟩
  go_wp2_with fail
  refine (s_crash h (Below.refl _ _) (ints_nil _) (by decide) (fun ad e _ => by cases e)).mono ?_
  rintro e w17 ⟨rfl, h⟩
  rw [ex11] at h
  go_wp2_with fail
  refine (reads_true h ⟨#[98]⟩ ⟨#[120, 121, 122, 117]⟩ (by decide) rfl (L := [120, 121, 122, 117]) rfl (k := 4) rfl).mono ?_
  rintro e w18 ⟨rfl, h⟩
  go_wp2_with fail
  refine (s_append h ⟨#[65]⟩ (by decide) (IsB.nil _) (by decide) ex12).mono ?_
  rintro e w19 ⟨rfl, h⟩
  go_wp2_with fail
  go_ret
  exact ⟨rfl, h.bel⟩
end Go.Proofs.Ytebpdlggkncliaa
