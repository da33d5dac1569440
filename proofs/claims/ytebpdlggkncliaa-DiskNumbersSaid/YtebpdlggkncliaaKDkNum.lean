/-
  DiskNumbers: the law's walk.
-/
import Derived.Test.YtebpdlggkncliaaKDkNumV
import Derived.Lib.SlBytesConst
import Derived.Deep.QuietTactic
import Derived.Deep.CutRange
set_option linter.unusedVariables false
set_option linter.unusedSimpArgs false
namespace Go.Proofs.Ytebpdlggkncliaa
open Go.RowKit Go.Maps
theorem dn1 : (⟨8, [], none, false⟩ : St).append [120] [97, 98, 99] = (⟨8, [([120], ([97, 98, 99], 0))], none, false⟩, 0) := by rfl
theorem free_front {w : World} {g : Nat} {cs : Array Value} {t : TypeId} (h : w.heap[g]? = some (.cells cs t (3, 4))) : w.frozen? ⟨g, 0, none⟩ = false := by
  simp [World.frozen?, h]
theorem dn2 : (⟨8, [([120], ([97, 98, 99], 0))], none, false⟩ : St).append [121] [49, 50, 51, 52, 53, 54] = (⟨8, [([120], ([97, 98, 99], 0))], none, false⟩, 5) := by rfl
theorem dn3 : (⟨8, [([120], ([97, 98, 99], 0))], none, false⟩ : St).append [121] [49, 50, 51, 52, 53] = (⟨8, [([120], ([97, 98, 99], 0)), ([121], ([49, 50, 51, 52, 53], 0))], none, false⟩, 0) := by rfl
theorem dn4 : (⟨8, [([120], ([97, 98, 99], 0)), ([121], ([49, 50, 51, 52, 53], 0))], none, false⟩ : St).append [120] [49] = (⟨8, [([120], ([97, 98, 99], 0)), ([121], ([49, 50, 51, 52, 53], 0))], none, false⟩, 5) := by rfl
theorem dn5 : (⟨8, [([120], ([97, 98, 99], 0)), ([121], ([49, 50, 51, 52, 53], 0))], none, false⟩ : St).append [120] [] = (⟨8, [([120], ([97, 98, 99], 0)), ([121], ([49, 50, 51, 52, 53], 0))], none, false⟩, 0) := by rfl
theorem dn6 : (⟨8, [([120], ([97, 98, 99], 0)), ([121], ([49, 50, 51, 52, 53], 0))], none, false⟩ : St).cut [120] (4) = (⟨8, [([120], ([97, 98, 99], 0)), ([121], ([49, 50, 51, 52, 53], 0))], none, false⟩, 2) := by rfl
theorem dn7 : (⟨8, [([120], ([97, 98, 99], 0)), ([121], ([49, 50, 51, 52, 53], 0))], none, false⟩ : St).cut [120] (-1) = (⟨8, [([120], ([97, 98, 99], 0)), ([121], ([49, 50, 51, 52, 53], 0))], none, false⟩, 2) := by rfl
theorem dn8 : (⟨8, [([120], ([97, 98, 99], 0)), ([121], ([49, 50, 51, 52, 53], 0))], none, false⟩ : St).cut [120] (2) = (⟨8, [([120], ([97, 98], 2)), ([121], ([49, 50, 51, 52, 53], 0))], none, false⟩, 0) := by rfl
theorem dn9 : (⟨8, [([120], ([97, 98], 2)), ([121], ([49, 50, 51, 52, 53], 0))], none, false⟩ : St).sync [113] = (⟨8, [([120], ([97, 98], 2)), ([121], ([49, 50, 51, 52, 53], 0))], none, false⟩, 13) := by rfl
theorem dn10 : (⟨8, [([120], ([97, 98], 2)), ([121], ([49, 50, 51, 52, 53], 0))], none, false⟩ : St).remove [113] = (⟨8, [([120], ([97, 98], 2)), ([121], ([49, 50, 51, 52, 53], 0))], none, false⟩, 13) := by rfl
theorem dn11 : (⟨8, [([120], ([97, 98], 2)), ([121], ([49, 50, 51, 52, 53], 0))], none, false⟩ : St).cut [113] (0) = (⟨8, [([120], ([97, 98], 2)), ([121], ([49, 50, 51, 52, 53], 0))], none, false⟩, 13) := by rfl
theorem dn12 : (⟨8, [([120], ([97, 98], 2)), ([121], ([49, 50, 51, 52, 53], 0))], none, false⟩ : St).rename [113] [120] = (⟨8, [([120], ([97, 98], 2)), ([121], ([49, 50, 51, 52, 53], 0))], none, false⟩, 13) := by rfl
theorem dn13 : (⟨8, [([120], ([97, 98], 2)), ([121], ([49, 50, 51, 52, 53], 0))], none, false⟩ : St).rename [120] [] = (⟨8, [([120], ([97, 98], 2)), ([121], ([49, 50, 51, 52, 53], 0))], none, false⟩, 13) := by rfl
theorem dn14 : (⟨8, [([120], ([97, 98], 2)), ([121], ([49, 50, 51, 52, 53], 0))], none, false⟩ : St).rename [120] [120] = (⟨8, [([120], ([97, 98], 2)), ([121], ([49, 50, 51, 52, 53], 0))], none, false⟩, 0) := by rfl
set_option maxRecDepth 100000 in
set_option maxHeartbeats 8000000 in
theorem numbers2_walk (w : World) : Calls Try.prog 3 #[] w fun e w' => e = .returned (.bool true) ∧ Below w.heap.size w w' := by
  have hsame := fun (W : World) C n c => Lib.run_convert_bytes_const (P := Try.prog) W 26 5 C n c Try.underlying26 Try.underlying5
  go_enter Try.func3, Try.ntmps3
  go_wp2_with fail
  refine (new_bad (-1) w (.inl (by decide))).mono ?_
  rintro e w1 ⟨rfl, rfl⟩
  go_wp2_with fail
  refine (new_bad 16777217 w (.inr (by decide))).mono ?_
  rintro e w1 ⟨rfl, rfl⟩
  go_wp2_with fail
  refine (s_new (w0 := w) 16777216 (by decide) (Below.refl _ _)).mono ?_
  rintro e w1 ⟨ax, rfl, hx⟩
  have hb1 := hx.bel
  clear hx
  go_wp2_with fail
  refine (s_new (w0 := w) 8 (by decide) hb1).mono ?_
  rintro e w2 ⟨a, rfl, h⟩
  clear hb1
  go_wp2_with fail
  obtain ⟨F, hd, hf, h0⟩ := h
  have hba : Below w2.heap.size w2 (w2.alloc (.cells #[.int .u8 97, .int .u8 98, .int .u8 99] 5 (3, 4))) := (Below.refl _ _).alloc (Nat.le_refl _) _
  have hin : (w2.alloc (.cells #[.int .u8 97, .int .u8 98, .int .u8 99] 5 (3, 4))).heap[w2.heap.size]? = some (.cells #[.int .u8 97, .int .u8 98, .int .u8 99] 5 (3, 4)) := heap_alloc_new _ _
  have hlt := hd.2.1
  obtain ⟨g, hg⟩ : ∃ g, Hid (g = w2.heap.size) := ⟨_, rfl⟩
  refine (append_disk (hd.below hba) ⟨#[120]⟩ (by decide) (bytes_lit w2 [97, 98, 99] #[.int .u8 97, .int .u8 98, .int .u8 99] 5 (3, 4) 3 rfl rfl) (by decide)).mono ?_
  rw [show (St.new 8).append (⟨#[120]⟩ : ByteArray).data.toList [97, 98, 99] = (⟨8, [([120], ([97, 98, 99], 0))], none, false⟩, 0) from dn1]
  rintro e w3 ⟨rfl, F3, hd3, ha3, hF3⟩
  have hin3 := (ha3.block _ (Array.getElem?_eq_some_iff.1 hin).1 (fun hb => by have := hlt _ hb; omega)).trans hin
  have hz : (w2.alloc (.cells #[.int .u8 97, .int .u8 98, .int .u8 99] 5 (3, 4))).heap.size = w2.heap.size + 1 := Array.size_push _
  have hng : ∀ b, F3 b → ¬ b = w2.heap.size := fun b hb e => by
    rcases hF3 b hb with h1 | h1
    · have := hlt _ h1; omega
    · omega
  have h3 : Sess w (w3.setCell ⟨w2.heap.size, 0, none⟩ (.int .u8 122)) a ⟨8, [([120], ([97, 98, 99], 0))], none, false⟩ := by
    refine ⟨F3, hd3.away (Away.setCell w3 ⟨w2.heap.size, 0, none⟩ (.int .u8 122)) hng, fun b hb => ?_, ?_⟩
    · rcases hF3 b hb with h1 | h1
      · exact hf b h1
      · have := h0.size; omega
    · have h4 : Below w.heap.size w w3 := ((Away.of_below (bst h0 hba)).trans ha3 fun b e => .inl (hf b e)).below (Nat.le_refl _) fun b e => e
      exact h4.setCell h0.size _
  have c3 : w3.cell? ⟨w2.heap.size, 0, none⟩ = some (.int .u8 97) := cell_of_row w3 _ 0 _ _ _ hin3
  have f3 : w3.frozen? ⟨w2.heap.size, 0, none⟩ = false := free_front hin3
  clear hd hf h0 hba hin hlt hg hd3 ha3 hF3 hin3 hz hng
  go_wp2_with fail
  obtain ⟨F, hd, hf, h0⟩ := h3
  generalize w3.setCell ⟨w2.heap.size, 0, none⟩ (.int .u8 122) = w4 at hd h0 ⊢
  clear c3 f3
  have hlt := hd.2.1
  refine (read_any hd ⟨#[120]⟩ (by decide)).mono ?_
  rw [show (⟨8, [([120], ([97, 98, 99], 0))], none, false⟩ : St).read (⟨#[120]⟩ : ByteArray).data.toList = ([97, 98, 99], 0) from rfl]
  rintro e w5 ⟨v, rfl, hO, hb5⟩
  obtain ⟨g2, cap, rfl, hb2, cur, hg2⟩ : ∃ g2 cap, v = .slice (some ⟨g2, 0, none⟩) 3 cap ∧ w4.heap.size ≤ g2 ∧ ∃ cur, w5.heap[g2]? = some (.cells cur 5 (0, 0)) := by
    rcases hO.2 with ⟨_, hn⟩ | ⟨g2, cap, cur, hv, hbg, hg2, _⟩
    · exact absurd hn (by decide)
    · exact ⟨g2, cap, hv, hbg, cur, hg2⟩
  have c5 : w5.cell? ⟨g2, 1, none⟩ = some (.int .u8 98) := by
    have := World.ownsRow.cells (g := g2) hO rfl 1 (.int .u8 98) rfl
    simpa [Addr.add_lit] using this
  have f5 := free_of_row hg2 1
  have h : Sess w (w5.setCell ⟨g2, 1, none⟩ (.int .u8 122)) a ⟨8, [([120], ([97, 98, 99], 0))], none, false⟩ :=
    ⟨F, (hd.below hb5).away (Away.setCell w5 ⟨g2, 1, none⟩ (.int .u8 122)) (fun b hb e => by have := hlt _ hb; have e' : b = g2 := e; omega), hf, (bst h0 hb5).setCell (Nat.le_trans h0.size hb2) _⟩
  clear hd hf h0 hlt hO hb5 hb2 hg2
  go_upto_region 14 with fail
  clear c5 f5
  generalize w5.setCell ⟨g2, 1, none⟩ (.int .u8 122) = w6 at h ⊢
  go_cut [13] from 60 to 154 (fun cv wx => cv = .bool true ∧ Sess w wx a ⟨8, [([120], ([97, 98], 2)), ([121], ([49, 50, 51, 52, 53], 0))], none, false⟩)
  case first =>
    go_wp2_with fail
    refine (reads_true h ⟨#[120]⟩ ⟨#[97, 98, 99]⟩ (by decide) rfl (L := [97, 98, 99]) rfl (k := 0) rfl).mono ?_
    rintro e w7 ⟨rfl, h⟩
    go_wp2_with fail
    refine (s_append (h.alloc _) ⟨#[121]⟩ (by decide) (bytes_lit w7 [49, 50, 51, 52, 53, 54] #[.int .u8 49, .int .u8 50, .int .u8 51, .int .u8 52, .int .u8 53, .int .u8 54] 5 (6, 7) 6 rfl rfl) (by decide) dn2).mono ?_
    rintro e w8 ⟨rfl, h⟩
    go_wp2_with fail
    refine (s_append (h.alloc _) ⟨#[121]⟩ (by decide) (bytes_lit w8 [49, 50, 51, 52, 53] #[.int .u8 49, .int .u8 50, .int .u8 51, .int .u8 52, .int .u8 53] 5 (5, 6) 5 rfl rfl) (by decide) dn3).mono ?_
    rintro e w9 ⟨rfl, h⟩
    go_wp2_with fail
    refine (s_append (h.alloc _) ⟨#[120]⟩ (by decide) (bytes_lit w9 [49] #[.int .u8 49] 5 (1, 2) 1 rfl rfl) (by decide) dn4).mono ?_
    rintro e w10 ⟨rfl, h⟩
    go_wp2_with fail
    refine (s_append h ⟨#[120]⟩ (by decide) (IsB.nil _) (by decide) dn5).mono ?_
    rintro e w11 ⟨rfl, h⟩
    go_wp2_with fail
    refine (s_cut h ⟨#[120]⟩ (by decide) (4) (by decide) (by decide) dn6).mono ?_
    rintro e w12 ⟨rfl, h⟩
    go_wp2_with fail
    refine (s_cut h ⟨#[120]⟩ (by decide) (-1) (by decide) (by decide) dn7).mono ?_
    rintro e w13 ⟨rfl, h⟩
    go_wp2_with fail
    refine (s_cut h ⟨#[120]⟩ (by decide) (2) (by decide) (by decide) dn8).mono ?_
    rintro e w14 ⟨rfl, h⟩
    go_wp2_with fail
    refine (s_synced h ⟨#[120]⟩ (by decide) (n := 2) rfl).mono ?_
    rintro e w15 ⟨rfl, rfl⟩
    go_wp2_with fail
    refine (s_sync h ⟨#[113]⟩ (by decide) dn9).mono ?_
    rintro e w16 ⟨rfl, h⟩
    go_wp2_with fail
    refine (s_remove h ⟨#[113]⟩ (by decide) dn10).mono ?_
    rintro e w17 ⟨rfl, h⟩
    go_wp2_with fail
    refine (s_cut h ⟨#[113]⟩ (by decide) (0) (by decide) (by decide) dn11).mono ?_
    rintro e w18 ⟨rfl, h⟩
    go_wp2_with fail
    refine (s_rename h ⟨#[113]⟩ (by decide) ⟨#[120]⟩ (by decide) dn12).mono ?_
    rintro e w19 ⟨rfl, h⟩
    go_wp2_with fail
    refine (s_rename h ⟨#[120]⟩ (by decide) ⟨#[]⟩ (by decide) dn13).mono ?_
    rintro e w20 ⟨rfl, h⟩
    go_wp2_with fail
    refine (s_rename h ⟨#[120]⟩ (by decide) ⟨#[120]⟩ (by decide) dn14).mono ?_
    rintro e w21 ⟨rfl, h⟩
    go_wp2_with fail
    refine (reads_true h ⟨#[120]⟩ ⟨#[97, 98]⟩ (by decide) rfl (L := [97, 98]) rfl (k := 2) rfl).mono ?_
    rintro e w22 ⟨rfl, h⟩
    go_wp2_with fail
    refine (s_used h  (n := 7) rfl).mono ?_
    rintro e w23 ⟨rfl, rfl⟩
    go_wp2_with fail
    go_meet
    exact ⟨rfl, h⟩
  case rest =>
  obtain ⟨rfl, h⟩ := hcut
  rename_i kk hnext hx
  exact hnext _ _ (numbers_mid w wc a h _ _ _ _ _ _ _ _ _ _ _ _ _ _ _ _ _ _ _ _ _ _ _ _ _ _ _ _ _ _ _ _ _ _ _ _ _ _ _ _ _ _ _ _ _ _ _ _ _ _ _ _ _ _ _ _ _ _ _ _ _ _ _ _ _ _ _ _ _ _ _ _ _ _ _ _ _ _ _ _ _ _ _ _ _ _ _ _ _ _ _ _ _ _ _ _ _ _ _ _ _ _ _ _ _ _ _ _ _ _ _ _ _ _ _ _ _ _ _ _ _ _ _ _ _ _ _ _ _ _ _ _ _ _ _ _ _ _ _ _ _ _ _ _ _ _ _ _ _ _ _ _ _ _ _ _ _ _ _ _ _ _ _ _ _ _ _ _ _ _ _ _ _ _ _ _ _ _ _ _ _ _ _ _ _ _ _ _ _ _ _ _ _ _ _ _ _ _ _ _ _ _ _ _ _ _ _ _ _ _ _ _ _ _ _ _ _ _ _ _ _ _ _ _ _ _ _ _ _ _ _ _ _ _ _ _ _ _ _ _ _ _ _ _ _ _ _ _ _ _ _ _ _ _ _ _ _ _ _ _ _ _ _ _ _ _ _ _ _ _ _ _)
end Go.Proofs.Ytebpdlggkncliaa
