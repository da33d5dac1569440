/-
  DiskNumbers from the names that may not be up to the disk of two hundred files.
-/
import Derived.Test.YtebpdlggkncliaaKDkNumU
set_option linter.unusedVariables false
set_option linter.unusedSimpArgs false
namespace Go.Proofs.Ytebpdlggkncliaa
open Go.RowKit Go.Maps

theorem bad_name {s : St} {nm : Nm} {l : List UInt8} (hd : s.down = false) (h : rightN nm = false) : s.append nm l = (s, 13) := by
  unfold St.append
  rw [if_neg (by rw [hd]; decide), if_pos h]
/-- a disk of the law's own, beside a block that is none of its -/
def SessX (w0 w : World) (g : Nat) (o : Obj) (a : Nat) (s : St) : Prop := ∃ F, Dk w F a s ∧ (∀ b, F b → w0.heap.size ≤ b) ∧ Below w0.heap.size w0 w ∧ ¬ F g ∧ w.heap[g]? = some o
theorem SessX.sess {w0 w : World} {g : Nat} {o : Obj} {a : Nat} {s : St} (h : SessX w0 w g o a s) : Sess w0 w a s := by
  obtain ⟨F, hd, hf, h0, _, _⟩ := h
  exact ⟨F, hd, hf, h0⟩
theorem SessX.row {w0 w : World} {g : Nat} {o : Obj} {a : Nat} {s : St} (h : SessX w0 w g o a s) : w.heap[g]? = some o := by
  obtain ⟨F, hd, hf, h0, _, hr⟩ := h
  exact hr
theorem Sess.x {w0 w : World} {a : Nat} {s : St} (h : Sess w0 w a s) (o : Obj) : SessX w0 (w.alloc o) w.heap.size o a s := by
  obtain ⟨F, hd, hf, h0⟩ := h
  have hb : Below w.heap.size w (w.alloc o) := (Below.refl _ _).alloc (Nat.le_refl _) _
  exact ⟨F, hd.below hb, hf, bst h0 hb, fun hg => Nat.lt_irrefl _ (hd.2.1 _ hg), heap_alloc_new _ _⟩
theorem x_append {w0 w : World} {g : Nat} {o : Obj} {a : Nat} {s : St} (h : SessX w0 w g o a s) (nm : ByteArray) (hnm : nm.size ≤ maxLen) {B : Option Addr} {n c : Nat} {l : List UInt8} (hB : IsB w B n c l) (hn : n ≤ maxLen) {s' : St} {er : Nat} (he : s.append nm.data.toList l = (s', er)) :
    Calls Try.prog 9 #[.pointer (some ⟨a, 0, none⟩), .string nm, .slice B n c] w fun e w' => e = .returned (.int .i64 (er : Int)) ∧ SessX w0 w' g o a s' := by
  obtain ⟨F, hd, hf, h0, hg, hr⟩ := h
  refine (append_disk hd nm hnm hB hn).mono ?_
  rw [he]
  rintro e w' ⟨rfl, ht⟩
  obtain ⟨F', hd', ha, hF⟩ := ht
  refine ⟨rfl, F', hd', fun b hb => ?_, ?_, fun hg' => ?_, ?_⟩
  · rcases hF b hb with e | e
    · exact hf b e
    · exact Nat.le_trans h0.size e
  · exact ((Away.of_below h0).trans ha fun b e => .inl (hf b e)).below (Nat.le_refl _) fun b e => e
  · rcases hF g hg' with e | e
    · exact hg e
    · have := (Array.getElem?_eq_some_iff.1 hr).1
      omega
  · exact (ha.block g (Array.getElem?_eq_some_iff.1 hr).1 hg).trans hr
theorem dn101 : (⟨8, [([120], ([97, 98], 2)), ([121], ([49, 50, 51, 52, 53], 0))], none, false⟩ : St).arm' 0 = ⟨8, [([120], ([97, 98], 2)), ([121], ([49, 50, 51, 52, 53], 0))], some 0, false⟩ := by rfl
theorem dn102 : (⟨8, [([120], ([97, 98], 2)), ([121], ([49, 50, 51, 52, 53], 0))], some 0, false⟩ : St).append [121] [122, 122, 122, 122, 122] = (⟨8, [([120], ([97, 98], 2)), ([121], ([49, 50, 51, 52, 53], 0))], some 0, false⟩, 5) := by rfl
theorem dn103 : (⟨8, [([120], ([97, 98], 2)), ([121], ([49, 50, 51, 52, 53], 0))], some 0, false⟩ : St).rename [121] [120] = (⟨8, [([120], ([97, 98], 2)), ([121], ([49, 50, 51, 52, 53], 0))], none, true⟩, 15) := by rfl
theorem dn104 : (⟨8, [([120], ([97, 98], 2)), ([121], ([49, 50, 51, 52, 53], 0))], none, true⟩ : St).arm' 5 = ⟨8, [([120], ([97, 98], 2)), ([121], ([49, 50, 51, 52, 53], 0))], none, true⟩ := by rfl
theorem dn105 : (⟨8, [([120], ([97, 98], 2)), ([121], ([49, 50, 51, 52, 53], 0))], none, true⟩ : St).sync [120] = (⟨8, [([120], ([97, 98], 2)), ([121], ([49, 50, 51, 52, 53], 0))], none, true⟩, 15) := by rfl
theorem dn106 : (⟨8, [([120], ([97, 98], 2)), ([121], ([49, 50, 51, 52, 53], 0))], none, true⟩ : St).crash [9, 2] = ⟨8, [([120], ([97, 98], 2)), ([121], ([49, 50], 2))], none, false⟩ := by rfl
noncomputable def numbersMid : Code := ((Try.f3.body.bind (fromRegion 15)).getD .skip)
set_option maxRecDepth 1000000 in
set_option maxHeartbeats 8000000 in
theorem numbers_mid (w wc : World) (a : Nat) (h : Sess w wc a ⟨8, [([120], ([97, 98], 2)), ([121], ([49, 50, 51, 52, 53], 0))], none, false⟩) (y0 y1 y3 y5 y8 y9 y10 y11 y12 y14 y15 y16 y17 y18 y19 y20 y21 y22 y23 y24 y25 y26 y27 y28 y29 y30 y31 y32 y33 y34 y35 y36 y37 y38 y39 y40 y41 y42 y43 y44 y45 y46 y47 y48 y49 y50 y51 y52 y53 y54 y55 y56 y57 y58 y59 y60 y61 y62 y63 y64 y65 y66 y67 y68 y69 y70 y71 y72 y73 y74 y75 y76 y77 y78 y79 y80 y81 y82 y83 y84 y85 y86 y87 y88 y89 y90 y91 y92 y93 y94 y95 y96 y97 y98 y99 y100 y101 y102 y103 y104 y105 y106 y107 y108 y109 y110 y111 y112 y113 y114 y115 y116 y117 y118 y119 y120 y121 y122 y123 y124 y125 y126 y127 y128 y129 y130 y131 y132 y133 y134 y135 y136 y137 y138 y139 y140 y141 y142 y143 y144 y145 y146 y147 y148 y149 y150 y151 y152 y153 y154 y155 y156 y157 y158 y159 y160 y161 y162 y163 y164 y165 y166 y167 y168 y169 y170 y171 y172 y173 y174 y175 y176 y177 y178 y179 y180 y181 y182 y183 y184 y185 y186 y187 y188 y189 y190 y191 y192 y193 y194 y195 y196 y197 y198 y199 y200 y201 y202 y203 y204 y205 y206 y207 y208 y209 y210 y211 y212 y213 y214 y215 y216 y217 y218 y219 y220 y221 y222 y223 y224 y225 y226 y227 y228 y229 y230 y231 y232 y233 y234 y235 y236 y237 y238 y239 y240 y241 y242 y243 y244 y245 y246 y247 y248 y249 y250 y251 y252 y253 y254 y255 y256 y257 y258 y259 y260 y261 y262 y263 y264 y265 y266 y267 y268 y269 y270 y271 y272 y273 y274 y275 y276 : Value) :
    Code.wp Try.prog numbersMid (bodyPost Try.prog Try.f3 fun e w' => e = .returned (.bool true) ∧ Below w.heap.size w w') ⟨List.toArray (y0 :: y1 :: .int .i64 2 :: y3 :: .int .i64 2 :: y5 :: .int .i64 0 :: .pointer (some ⟨a, 0, none⟩) :: y8 :: y9 :: y10 :: y11 :: y12 :: .bool true :: y14 :: y15 :: y16 :: y17 :: y18 :: y19 :: y20 :: y21 :: y22 :: y23 :: y24 :: y25 :: y26 :: y27 :: y28 :: y29 :: y30 :: y31 :: y32 :: y33 :: y34 :: y35 :: y36 :: y37 :: y38 :: y39 :: y40 :: y41 :: y42 :: y43 :: y44 :: y45 :: y46 :: y47 :: y48 :: y49 :: y50 :: y51 :: y52 :: y53 :: y54 :: y55 :: y56 :: y57 :: y58 :: y59 :: y60 :: y61 :: y62 :: y63 :: y64 :: y65 :: y66 :: y67 :: y68 :: y69 :: y70 :: y71 :: y72 :: y73 :: y74 :: y75 :: y76 :: y77 :: y78 :: y79 :: y80 :: y81 :: y82 :: y83 :: y84 :: y85 :: y86 :: y87 :: y88 :: y89 :: y90 :: y91 :: y92 :: y93 :: y94 :: y95 :: y96 :: y97 :: y98 :: y99 :: y100 :: y101 :: y102 :: y103 :: y104 :: y105 :: y106 :: y107 :: y108 :: y109 :: y110 :: y111 :: y112 :: y113 :: y114 :: y115 :: y116 :: y117 :: y118 :: y119 :: y120 :: y121 :: y122 :: y123 :: y124 :: y125 :: y126 :: y127 :: y128 :: y129 :: y130 :: y131 :: y132 :: y133 :: y134 :: y135 :: y136 :: y137 :: y138 :: y139 :: y140 :: y141 :: y142 :: y143 :: y144 :: y145 :: y146 :: y147 :: y148 :: y149 :: y150 :: y151 :: y152 :: y153 :: y154 :: y155 :: y156 :: y157 :: y158 :: y159 :: y160 :: y161 :: y162 :: y163 :: y164 :: y165 :: y166 :: y167 :: y168 :: y169 :: y170 :: y171 :: y172 :: y173 :: y174 :: y175 :: y176 :: y177 :: y178 :: y179 :: y180 :: y181 :: y182 :: y183 :: y184 :: y185 :: y186 :: y187 :: y188 :: y189 :: y190 :: y191 :: y192 :: y193 :: y194 :: y195 :: y196 :: y197 :: y198 :: y199 :: y200 :: y201 :: y202 :: y203 :: y204 :: y205 :: y206 :: y207 :: y208 :: y209 :: y210 :: y211 :: y212 :: y213 :: y214 :: y215 :: y216 :: y217 :: y218 :: y219 :: y220 :: y221 :: y222 :: y223 :: y224 :: y225 :: y226 :: y227 :: y228 :: y229 :: y230 :: y231 :: y232 :: y233 :: y234 :: y235 :: y236 :: y237 :: y238 :: y239 :: y240 :: y241 :: y242 :: y243 :: y244 :: y245 :: y246 :: y247 :: y248 :: y249 :: y250 :: y251 :: y252 :: y253 :: y254 :: y255 :: y256 :: y257 :: y258 :: y259 :: y260 :: y261 :: y262 :: y263 :: y264 :: y265 :: y266 :: y267 :: y268 :: y269 :: y270 :: y271 :: y272 :: y273 :: y274 :: y275 :: y276 :: []), []⟩ wc := by
  have hsame := fun (W : World) C n c => Lib.run_convert_bytes_const (P := Try.prog) W 26 5 C n c Try.underlying26 Try.underlying5
  conv => arg 2; whnf
  go_wp2_with fail
  refine (strings_Repeat ⟨#[97]⟩ 41 wc (by decide) (by decide)).mono ?_
  rintro e wr0 ⟨rfl, hbr⟩
  obtain ⟨R, hR⟩ : ∃ R : ByteArray, R = ⟨(Lib.repeatL (⟨#[97]⟩ : ByteArray).data.toList 41).toArray⟩ := ⟨_, rfl⟩
  rw [← hR]
  have hRn : rightN R.data.toList = false := by rw [hR]; decide
  have hRs : R.size ≤ maxLen := by rw [hR]; decide
  have HRN := Lib.hid hRn
  have HRS := Lib.hid hRs
  replace h := h.below hbr
  clear hR hRn hRs hbr
  have hX := h.x (.cells #[.string ⟨#[]⟩, .string ⟨#[65]⟩, .string ⟨#[97, 32, 98]⟩, .string ⟨#[97, 47, 98]⟩, .string ⟨#[97, 95, 98]⟩, .string ⟨#[255]⟩, .string R] 9 (0, 0))
  obtain ⟨g, hg⟩ : ∃ g, Hid (g = wr0.heap.size) := ⟨_, rfl⟩
  rw [← hg.out] at hX
  clear h
  go_wp2_with fail
  rw [← hg.out]
  generalize wr0.alloc (.cells #[.string ⟨#[]⟩, .string ⟨#[65]⟩, .string ⟨#[97, 32, 98]⟩, .string ⟨#[97, 47, 98]⟩, .string ⟨#[97, 95, 98]⟩, .string ⟨#[255]⟩, .string R] 9) = wa at hX ⊢
  go_loopw [158] (fun q wr => ∃ j : Nat, q = .int .i64 (j : Int) ∧ j ≤ 7 ∧ SessX w wr g (.cells #[.string ⟨#[]⟩, .string ⟨#[65]⟩, .string ⟨#[97, 32, 98]⟩, .string ⟨#[97, 47, 98]⟩, .string ⟨#[97, 95, 98]⟩, .string ⟨#[255]⟩, .string R] 9 (0, 0)) a ⟨8, [([120], ([97, 98], 2)), ([121], ([49, 50, 51, 52, 53], 0))], none, false⟩) (fun q _ => 7 - (intOf q).toNat)
  case atStart => exact ⟨0, rfl, by omega, hX⟩
  case round =>
    clear hX
    obtain ⟨j, rfl, hj, hX⟩ := hrel
    have hrow := hX.row
    by_cases hj7 : j < 7
    · have g1 : decide ((j : Int) < 7) = true := decide_eq_true (by omega)
      obtain rfl | rfl | rfl | rfl | rfl | rfl | rfl : j = 0 ∨ j = 1 ∨ j = 2 ∨ j = 3 ∨ j = 4 ∨ j = 5 ∨ j = 6 := by omega
      · have c0 : wr.cell? ⟨g, 0, none⟩ = some (.string ⟨#[]⟩) := cell_of_row wr _ 0 _ _ _ hrow
        clear hrow
        go_wp2_with fail
        refine (x_append hX ⟨#[]⟩ (by decide) (IsB.nil _) (by decide) (bad_name rfl (by decide))).mono ?_
        rintro e w3 ⟨rfl, hX3⟩
        clear c0 hX
        go_wp2_with fail
        go_roundw
        case rel => exact ⟨1, rfl, by omega, hX3⟩
        case measure => simp [intOf]
      · have c0 : wr.cell? ⟨g, 1, none⟩ = some (.string ⟨#[65]⟩) := cell_of_row wr _ 1 _ _ _ hrow
        clear hrow
        go_wp2_with fail
        refine (x_append hX ⟨#[65]⟩ (by decide) (IsB.nil _) (by decide) (bad_name rfl (by decide))).mono ?_
        rintro e w3 ⟨rfl, hX3⟩
        clear c0 hX
        go_wp2_with fail
        go_roundw
        case rel => exact ⟨2, rfl, by omega, hX3⟩
        case measure => simp [intOf]
      · have c0 : wr.cell? ⟨g, 2, none⟩ = some (.string ⟨#[97, 32, 98]⟩) := cell_of_row wr _ 2 _ _ _ hrow
        clear hrow
        go_wp2_with fail
        refine (x_append hX ⟨#[97, 32, 98]⟩ (by decide) (IsB.nil _) (by decide) (bad_name rfl (by decide))).mono ?_
        rintro e w3 ⟨rfl, hX3⟩
        clear c0 hX
        go_wp2_with fail
        go_roundw
        case rel => exact ⟨3, rfl, by omega, hX3⟩
        case measure => simp [intOf]
      · have c0 : wr.cell? ⟨g, 3, none⟩ = some (.string ⟨#[97, 47, 98]⟩) := cell_of_row wr _ 3 _ _ _ hrow
        clear hrow
        go_wp2_with fail
        refine (x_append hX ⟨#[97, 47, 98]⟩ (by decide) (IsB.nil _) (by decide) (bad_name rfl (by decide))).mono ?_
        rintro e w3 ⟨rfl, hX3⟩
        clear c0 hX
        go_wp2_with fail
        go_roundw
        case rel => exact ⟨4, rfl, by omega, hX3⟩
        case measure => simp [intOf]
      · have c0 : wr.cell? ⟨g, 4, none⟩ = some (.string ⟨#[97, 95, 98]⟩) := cell_of_row wr _ 4 _ _ _ hrow
        clear hrow
        go_wp2_with fail
        refine (x_append hX ⟨#[97, 95, 98]⟩ (by decide) (IsB.nil _) (by decide) (bad_name rfl (by decide))).mono ?_
        rintro e w3 ⟨rfl, hX3⟩
        clear c0 hX
        go_wp2_with fail
        go_roundw
        case rel => exact ⟨5, rfl, by omega, hX3⟩
        case measure => simp [intOf]
      · have c0 : wr.cell? ⟨g, 5, none⟩ = some (.string ⟨#[255]⟩) := cell_of_row wr _ 5 _ _ _ hrow
        clear hrow
        go_wp2_with fail
        refine (x_append hX ⟨#[255]⟩ (by decide) (IsB.nil _) (by decide) (bad_name rfl (by decide))).mono ?_
        rintro e w3 ⟨rfl, hX3⟩
        clear c0 hX
        go_wp2_with fail
        go_roundw
        case rel => exact ⟨6, rfl, by omega, hX3⟩
        case measure => simp [intOf]
      · have c0 : wr.cell? ⟨g, 6, none⟩ = some (.string R) := cell_of_row wr _ 6 _ _ _ hrow
        clear hrow
        go_wp2_with fail
        refine (x_append hX R HRS.out (IsB.nil _) (by decide) (bad_name rfl HRN.out)).mono ?_
        rintro e w3 ⟨rfl, hX3⟩
        clear c0 hX
        go_wp2_with fail
        go_roundw
        case rel => exact ⟨7, rfl, by omega, hX3⟩
        case measure => simp [intOf]
    · obtain rfl : j = 7 := by omega
      have g1 : decide (((7 : Nat) : Int) < 7) = false := by decide
      have h := hX.sess
      clear hX hrow
      go_wp2_with fail
      refine (s_arm h 0 (by decide) (by decide)).mono ?_
      rintro e w11 ⟨rfl, h⟩
      rw [dn101] at h
      go_wp2_with fail
      refine (s_append (h.alloc _) ⟨#[121]⟩ (by decide) (bytes_lit w11 [122, 122, 122, 122, 122] #[.int .u8 122, .int .u8 122, .int .u8 122, .int .u8 122, .int .u8 122] 5 (5, 6) 5 rfl rfl) (by decide) dn102).mono ?_
      rintro e w12 ⟨rfl, h⟩
      go_wp2_with fail
      refine (s_rename h ⟨#[121]⟩ (by decide) ⟨#[120]⟩ (by decide) dn103).mono ?_
      rintro e w13 ⟨rfl, h⟩
      go_wp2_with fail
      refine (s_arm h 5 (by decide) (by decide)).mono ?_
      rintro e w14 ⟨rfl, h⟩
      rw [dn104] at h
      go_wp2_with fail
      refine (s_sync h ⟨#[120]⟩ (by decide) dn105).mono ?_
      rintro e w15 ⟨rfl, h⟩
      go_wp2_with fail
      refine (s_list h).mono ?_
      rintro e w20 ⟨A, c, rfl, hN, h⟩
      go_wp2_with fail
      refine (sametexts_any (hN.isN.below ((Below.refl _ _).alloc (Nat.le_refl _) _)) (strs_lit w20 [[120], [121]] #[.string ⟨#[120]⟩, .string ⟨#[121]⟩] 9 2 rfl rfl) (by decide) (by decide)).mono ?_
      rintro e w21 ⟨rfl, hb⟩
      replace h := (h.alloc _).below hb
      rw [show decide ((⟨8, [([120], ([97, 98], 2)), ([121], ([49, 50, 51, 52, 53], 0))], none, true⟩ : St).fs.map (·.1) = [[120], [121]]) = true by decide]
      clear hb hN
      go_wp2_with fail
      refine (s_down h (b := true) rfl).mono ?_
      rintro e w22 ⟨rfl, rfl⟩
      go_wp2_with fail
      refine (s_crash h ((Below.refl _ _).alloc (Nat.le_refl _) _) (ints_lit w21 [9, 2] #[.int .i64 9, .int .i64 2] 3 2 rfl rfl (by decide)) (by decide) (fun ad e _ => by cases e; exact .inl (Nat.le_refl _))).mono ?_
      rintro e w23 ⟨rfl, h⟩
      rw [dn106] at h
      go_upto_region 27 with fail
      go_cut [20] from 190 to 210 (fun cv wx => cv = .bool true ∧ Below w.heap.size w wx)
      case first =>
        go_wp2_with fail
        refine (reads_true h ⟨#[120]⟩ ⟨#[97, 98]⟩ (by decide) rfl (L := [97, 98]) rfl (k := 2) rfl).mono ?_
        rintro e w24 ⟨rfl, h⟩
        go_wp2_with fail
        refine (reads_true h ⟨#[121]⟩ ⟨#[49, 50]⟩ (by decide) rfl (L := [49, 50]) rfl (k := 2) rfl).mono ?_
        rintro e w25 ⟨rfl, h⟩
        go_wp2_with fail
        go_meet
        exact ⟨rfl, h.bel⟩
      case rest =>
      obtain ⟨rfl, hbw⟩ := hcut
      clear h
      rename_i kk hnext
      exact hnext _ _ (numbers_last w wc hbw _ _ _ _ _ _ _ _ _ _ _ _ _ _ _ _ _ _ _ _ _ _ _ _ _ _ _ _ _ _ _ _ _ _ _ _ _ _ _ _ _ _ _ _ _ _ _ _ _ _ _ _ _ _ _ _ _ _ _ _ _ _ _ _ _ _ _ _ _ _ _ _ _ _ _ _ _ _ _ _ _ _ _ _ _ _ _ _ _ _ _ _ _ _ _ _ _ _ _ _ _ _ _ _ _ _ _ _ _ _ _ _ _ _ _ _ _ _ _ _ _ _ _ _ _ _ _ _ _ _ _ _ _ _ _ _ _ _ _ _ _ _ _ _ _ _ _ _ _ _ _ _ _ _ _ _ _ _ _ _ _ _ _ _ _ _ _ _ _ _ _ _ _ _ _ _ _ _ _ _ _ _ _ _ _ _ _ _ _ _ _ _ _ _ _ _ _ _ _ _ _ _ _ _ _ _ _ _ _ _ _ _ _ _ _ _ _ _ _ _ _ _ _ _ _ _ _ _ _ _ _ _ _ _ _ _ _ _ _ _ _ _ _ _ _ _ _ _ _ _ _ _ _ _ _ _ _ _ _ _ _ _ _ _ _ _ _ _ _ _ _ _)
end Go.Proofs.Ytebpdlggkncliaa
