/-
  DiskNumbers: the disk of two hundred files.
-/
import Derived.Test.YtebpdlggkncliaaK5
import Derived.Test.YtebpdlggkncliaaK1
import Derived.Lib.SlBytesConst
import Derived.Deep.QuietTactic
import Derived.Deep.CutRange
set_option linter.unusedVariables false
set_option linter.unusedSimpArgs false
namespace Go.Proofs.Ytebpdlggkncliaa
open Go.RowKit Go.Maps

theorem letter_cut : ∀ (r : Nat), r < 10 → (⟨#[97, 98, 99, 100, 101, 102, 103, 104, 105, 106]⟩ : ByteArray).extract r (r + 1) = ⟨#[(97 + r).toUInt8]⟩
  | 0, _ => by rfl
  | 1, _ => by rfl
  | 2, _ => by rfl
  | 3, _ => by rfl
  | 4, _ => by rfl
  | 5, _ => by rfl
  | 6, _ => by rfl
  | 7, _ => by rfl
  | 8, _ => by rfl
  | 9, _ => by rfl
theorem run_letter (r : Nat) (h : r < 10) : ∀ W, (Instr.slice 9 (.string ⟨#[97, 98, 99, 100, 101, 102, 103, 104, 105, 106]⟩) (some (.int .i64 (r : Int))) (some (.int .i64 ((r : Int) + 1))) none).run Try.prog W = .ok (.string ⟨#[(97 + r).toUInt8]⟩) W := by
  intro W
  have := run_slice_string (P := Try.prog) W 9 ⟨#[97, 98, 99, 100, 101, 102, 103, 104, 105, 106]⟩ .i64 .i64 (r : Int) ((r : Int) + 1) Try.underlying9 (by omega) (by omega) (by show (r : Int) + 1 ≤ 10; omega)
  rw [this, show ((r : Int) + 1).toNat = r + 1 by omega, show ((r : Int)).toNat = r by omega, letter_cut r h]
theorem rep_one (q : Nat) : Lib.repeatL [48] q = List.replicate q 48 := by
  induction q with
  | zero => rfl
  | succ n ih =>
    show [48] ++ Lib.repeatL [48] n = _
    rw [ih]
    rfl
noncomputable def numbersLast : Code := ((Try.f3.body.bind (fromRegion 28)).getD .skip)
set_option maxRecDepth 1000000 in
set_option maxHeartbeats 8000000 in
theorem numbers_last (w wc : World) (hb0 : Below w.heap.size w wc) (y0 y1 y3 y5 y7 y8 y9 y10 y11 y12 y14 y15 y16 y17 y18 y19 y21 y22 y23 y24 y25 y26 y27 y28 y29 y30 y31 y32 y33 y34 y35 y36 y37 y38 y39 y40 y41 y42 y43 y44 y45 y46 y47 y48 y49 y50 y51 y52 y53 y54 y55 y56 y57 y58 y59 y60 y61 y62 y63 y64 y65 y66 y67 y68 y69 y70 y71 y72 y73 y74 y75 y76 y77 y78 y79 y80 y81 y82 y83 y84 y85 y86 y87 y88 y89 y90 y91 y92 y93 y94 y95 y96 y97 y98 y99 y100 y101 y102 y103 y104 y105 y106 y107 y108 y109 y110 y111 y112 y113 y114 y115 y116 y117 y118 y119 y120 y121 y122 y123 y124 y125 y126 y127 y128 y129 y130 y131 y132 y133 y134 y135 y136 y137 y138 y139 y140 y141 y142 y143 y144 y145 y146 y147 y148 y149 y150 y151 y152 y153 y154 y155 y156 y157 y158 y159 y160 y161 y162 y163 y164 y165 y166 y167 y168 y169 y170 y171 y172 y173 y174 y175 y176 y177 y178 y179 y180 y181 y182 y183 y184 y185 y186 y187 y188 y189 y190 y191 y192 y193 y194 y195 y196 y197 y198 y199 y200 y201 y202 y203 y204 y205 y206 y207 y208 y209 y210 y211 y212 y213 y214 y215 y216 y217 y218 y219 y220 y221 y222 y223 y224 y225 y226 y227 y228 y229 y230 y231 y232 y233 y234 y235 y236 y237 y238 y239 y240 y241 y242 y243 y244 y245 y246 y247 y248 y249 y250 y251 y252 y253 y254 y255 y256 y257 y258 y259 y260 y261 y262 y263 y264 y265 y266 y267 y268 y269 y270 y271 y272 y273 y274 y275 y276 : Value) :
    Code.wp Try.prog numbersLast (bodyPost Try.prog Try.f3 fun e w' => e = .returned (.bool true) ∧ Below w.heap.size w w') ⟨List.toArray (y0 :: y1 :: .int .i64 2 :: y3 :: .int .i64 2 :: y5 :: .int .i64 0 :: y7 :: y8 :: y9 :: y10 :: y11 :: y12 :: .bool true :: y14 :: y15 :: y16 :: y17 :: y18 :: y19 :: .bool true :: y21 :: y22 :: y23 :: y24 :: y25 :: y26 :: y27 :: y28 :: y29 :: y30 :: y31 :: y32 :: y33 :: y34 :: y35 :: y36 :: y37 :: y38 :: y39 :: y40 :: y41 :: y42 :: y43 :: y44 :: y45 :: y46 :: y47 :: y48 :: y49 :: y50 :: y51 :: y52 :: y53 :: y54 :: y55 :: y56 :: y57 :: y58 :: y59 :: y60 :: y61 :: y62 :: y63 :: y64 :: y65 :: y66 :: y67 :: y68 :: y69 :: y70 :: y71 :: y72 :: y73 :: y74 :: y75 :: y76 :: y77 :: y78 :: y79 :: y80 :: y81 :: y82 :: y83 :: y84 :: y85 :: y86 :: y87 :: y88 :: y89 :: y90 :: y91 :: y92 :: y93 :: y94 :: y95 :: y96 :: y97 :: y98 :: y99 :: y100 :: y101 :: y102 :: y103 :: y104 :: y105 :: y106 :: y107 :: y108 :: y109 :: y110 :: y111 :: y112 :: y113 :: y114 :: y115 :: y116 :: y117 :: y118 :: y119 :: y120 :: y121 :: y122 :: y123 :: y124 :: y125 :: y126 :: y127 :: y128 :: y129 :: y130 :: y131 :: y132 :: y133 :: y134 :: y135 :: y136 :: y137 :: y138 :: y139 :: y140 :: y141 :: y142 :: y143 :: y144 :: y145 :: y146 :: y147 :: y148 :: y149 :: y150 :: y151 :: y152 :: y153 :: y154 :: y155 :: y156 :: y157 :: y158 :: y159 :: y160 :: y161 :: y162 :: y163 :: y164 :: y165 :: y166 :: y167 :: y168 :: y169 :: y170 :: y171 :: y172 :: y173 :: y174 :: y175 :: y176 :: y177 :: y178 :: y179 :: y180 :: y181 :: y182 :: y183 :: y184 :: y185 :: y186 :: y187 :: y188 :: y189 :: y190 :: y191 :: y192 :: y193 :: y194 :: y195 :: y196 :: y197 :: y198 :: y199 :: y200 :: y201 :: y202 :: y203 :: y204 :: y205 :: y206 :: y207 :: y208 :: y209 :: y210 :: y211 :: y212 :: y213 :: y214 :: y215 :: y216 :: y217 :: y218 :: y219 :: y220 :: y221 :: y222 :: y223 :: y224 :: y225 :: y226 :: y227 :: y228 :: y229 :: y230 :: y231 :: y232 :: y233 :: y234 :: y235 :: y236 :: y237 :: y238 :: y239 :: y240 :: y241 :: y242 :: y243 :: y244 :: y245 :: y246 :: y247 :: y248 :: y249 :: y250 :: y251 :: y252 :: y253 :: y254 :: y255 :: y256 :: y257 :: y258 :: y259 :: y260 :: y261 :: y262 :: y263 :: y264 :: y265 :: y266 :: y267 :: y268 :: y269 :: y270 :: y271 :: y272 :: y273 :: y274 :: y275 :: y276 :: []), []⟩ wc := by
  have hsame := fun (W : World) C n c => Lib.run_convert_bytes_const (P := Try.prog) W 26 5 C n c Try.underlying26 Try.underlying5
  conv => arg 2; whnf
  go_wp2_with fail
  refine (s_new (w0 := w) 1000 (by decide) hb0).mono ?_
  rintro e w2 ⟨a, rfl, h⟩
  clear hb0
  go_wp2_with fail
  go_loopw [23] (fun q wr => ∃ i : Nat, q = .int .i64 (i : Int) ∧ i ≤ 200 ∧ Sess w wr a (sN i)) (fun q _ => 200 - (intOf q).toNat)
  case atStart => exact ⟨0, rfl, by omega, h⟩
  case round =>
    clear h
    obtain ⟨i, rfl, hi, h⟩ := hrel
    by_cases hi2 : i < 200
    · have g1 : decide ((i : Int) < 200) = true := decide_eq_true (by omega)
      obtain ⟨q, hq⟩ : ∃ q, Hid (q = i / 10) := ⟨_, rfl⟩
      obtain ⟨r, hr⟩ : ∃ r, Hid (r = i % 10) := ⟨_, rfl⟩
      have hr10 : r < 10 := by rw [hr.out]; omega
      have e1 : (i : Int) / 10 = (q : Int) := by rw [hq.out]; omega
      have e2 : (i : Int) % 10 = (r : Int) := by rw [hr.out]; omega
      have e4 : (i : Int).tdiv 10 = (q : Int) := by rw [Int.tdiv_eq_ediv_of_nonneg (by omega)]; exact e1
      have e5 : (i : Int).tmod 10 = (r : Int) := by rw [Int.tmod_eq_emod_of_nonneg (by omega)]; exact e2
      have e3 : IntKind.i64.wrap ((r : Int) + 1) = (r : Int) + 1 := IntWalk.i64_in _ ⟨by omega, by omega⟩
      obtain ⟨LT, hLT⟩ : ∃ LT : ByteArray, LT = ⟨#[(97 + r).toUInt8]⟩ := ⟨_, rfl⟩
      have hL := run_letter r hr10
      rw [← hLT] at hL
      obtain ⟨S1, hS1⟩ : ∃ S1 : ByteArray, S1 = ⟨(Lib.repeatL (⟨#[48]⟩ : ByteArray).data.toList q).toArray⟩ := ⟨_, rfl⟩
      have hRp := fun W => strings_Repeat ⟨#[48]⟩ q W
      rw [← hS1] at hRp
      have hNM : Hid (((⟨#[102]⟩ : ByteArray) ++ S1 ++ LT).data.toList = nmI i) := by
        show _ = _
        rw [ByteArray.data_append, ByteArray.data_append, Array.toList_append, Array.toList_append, hS1, hLT]
        unfold nmI
        rw [← hq.out, ← hr.out]
        rw [rep_one q]
        rfl
      have hsz1 : S1.size = q := by rw [hS1]; show (Lib.repeatL [48] q).toArray.size = q; rw [rep_one q]; simp
      have hsz2 : LT.size = 1 := by rw [hLT]; rfl
      have hc1 : (9223372036854775807 < 1 + S1.size) = False := by rw [hsz1]; simp; rw [hq.out]; omega
      have hc2 : (9223372036854775807 < 1 + S1.size + LT.size) = False := by rw [hsz1, hsz2]; simp; rw [hq.out]; omega
      have HSZ : Hid (((⟨#[102]⟩ : ByteArray) ++ S1 ++ LT).size ≤ maxLen) := by
        show _ ≤ _
        rw [ByteArray.size_append, ByteArray.size_append, hsz1, hsz2, hq.out]
        show 1 + i / 10 + 1 ≤ _
        unfold maxLen
        omega
      clear hLT hS1 hsz1 hsz2
      have hq20 : q ≤ 20 := by rw [hq.out]; omega
      have e6 : IntKind.i64.wrap (q : Int) = (q : Int) := IntWalk.i64_in _ ⟨by omega, by omega⟩
      go_upto_region 32 with fail
      have hd := h.drew
      refine wp_region_held_drew (S := fun _ => True) (by kernel_rfl) trivial (fun hHeld => ?_)
      generalize wr.drew = wd at hd hHeld ⊢
      refine wpAnyH_take (i := 0) (v := ?_) rfl (by kernel_rfl) (by kernel_rfl) (by kernel_rfl) (fun _ _ _ h => h) (Or.inl ⟨by rfl, ?_⟩) hHeld ?_
      rotate_left
      · (intro wz hSw; clear hSw; go_simp <;> rfl)
      simp only [Act.put, List.getElem_toArray, List.getElem_cons_zero, List.getElem_cons_succ, List.setIfInBounds_toArray, List.set_cons_zero, List.set_cons_succ]
      refine wpAnyH_take (i := 1) (v := ?_) rfl (by kernel_rfl) (by kernel_rfl) (by kernel_rfl) (fun _ _ _ h => h) (Or.inl ⟨by rfl, ?_⟩) hHeld ?_
      rotate_left
      · (intro wz hSw; clear hSw; go_simp <;> rfl)
      simp only [Act.put, List.getElem_toArray, List.getElem_cons_zero, List.getElem_cons_succ, List.setIfInBounds_toArray, List.set_cons_zero, List.set_cons_succ]
      refine wpAnyH_take (i := 4) (v := ?_) rfl (by kernel_rfl) (by kernel_rfl) (by kernel_rfl) (fun _ _ _ h => h) (Or.inl ⟨by rfl, ?_⟩) hHeld ?_
      rotate_left
      · (intro wz hSw; clear hSw; go_simp <;> rfl)
      simp only [Act.put, List.getElem_toArray, List.getElem_cons_zero, List.getElem_cons_succ, List.setIfInBounds_toArray, List.set_cons_zero, List.set_cons_succ]
      refine wpAnyH_take (i := 5) (v := ?_) rfl (by kernel_rfl) (by kernel_rfl) (by kernel_rfl) (fun _ _ _ h => h) (Or.inl ⟨by rfl, ?_⟩) hHeld ?_
      rotate_left
      · (intro wz hSw; clear hSw; go_simp <;> rfl)
      simp only [Act.put, List.getElem_toArray, List.getElem_cons_zero, List.getElem_cons_succ, List.setIfInBounds_toArray, List.set_cons_zero, List.set_cons_succ]
      refine wpAnyH_take (i := 6) (v := ?_) rfl (by kernel_rfl) (by kernel_rfl) (by kernel_rfl) (fun _ _ _ h => h) (Or.inl ⟨by rfl, ?_⟩) hHeld ?_
      rotate_left
      · (intro wz hSw; clear hSw; go_simp <;> rfl)
      simp only [Act.put, List.getElem_toArray, List.getElem_cons_zero, List.getElem_cons_succ, List.setIfInBounds_toArray, List.set_cons_zero, List.set_cons_succ]
      refine wpAnyH_take (i := 7) (v := ?_) rfl (by kernel_rfl) (by kernel_rfl) (by kernel_rfl) (fun _ _ _ h => h) (Or.inl ⟨by rfl, ?_⟩) hHeld ?_
      rotate_left
      · (intro wz hSw; clear hSw; go_simp <;> rfl)
      simp only [Act.put, List.getElem_toArray, List.getElem_cons_zero, List.getElem_cons_succ, List.setIfInBounds_toArray, List.set_cons_zero, List.set_cons_succ]
      refine wpAnyH_take (i := 8) (v := ?_) rfl (by kernel_rfl) (by kernel_rfl) (by kernel_rfl) (fun _ _ _ h => h) (Or.inl ⟨by rfl, ?_⟩) hHeld ?_
      rotate_left
      · (intro wz hSw; clear hSw; go_simp <;> rfl)
      simp only [Act.put, List.getElem_toArray, List.getElem_cons_zero, List.getElem_cons_succ, List.setIfInBounds_toArray, List.set_cons_zero, List.set_cons_succ]
      refine wpAnyH_take (i := 9) (v := ?_) rfl (by kernel_rfl) (by kernel_rfl) (by kernel_rfl) (fun _ _ _ h => h) (Or.inl ⟨by rfl, ?_⟩) hHeld ?_
      rotate_left
      · (intro wz hSw; clear hSw; go_simp <;> rfl)
      simp only [Act.put, List.getElem_toArray, List.getElem_cons_zero, List.getElem_cons_succ, List.setIfInBounds_toArray, List.set_cons_zero, List.set_cons_succ]
      refine wpAnyH_ready (rs := [2]) (by kernel_rfl) (by simp) ?_
      refine AllReadyH.cons rfl (fun K hK => ?_) AllReadyH.nil
      go_simp
      refine (hRp _ (by omega) (by show 1 * q ≤ _; omega)).mono ?_
      rintro e w3 ⟨rfl, hb3⟩
      dsimp only
      refine hK.out _ _ trivial (fun hHeld => ?_)
      clear hK K
      try simp only [Act.put, List.getElem_toArray, List.getElem_cons_zero, List.getElem_cons_succ, List.setIfInBounds_toArray, List.set_cons_zero, List.set_cons_succ]
      have h3 := hd.below hb3
      clear hb3 hd h
      refine wpAnyH_take (i := 3) (v := ?_) rfl (by kernel_rfl) (by kernel_rfl) (by kernel_rfl) (fun _ _ _ h => h) (Or.inl ⟨by rfl, ?_⟩) hHeld ?_
      rotate_left
      · (intro wz hSw; clear hSw; go_simp <;> rfl)
      simp only [Act.put, List.getElem_toArray, List.getElem_cons_zero, List.getElem_cons_succ, List.setIfInBounds_toArray, List.set_cons_zero, List.set_cons_succ]
      refine wpAnyH_take (i := 10) (v := ?_) rfl (by kernel_rfl) (by kernel_rfl) (by kernel_rfl) (fun _ _ _ h => h) (Or.inl ⟨by rfl, ?_⟩) hHeld ?_
      rotate_left
      · (intro wz hSw; clear hSw; go_simp <;> rfl)
      simp only [Act.put, List.getElem_toArray, List.getElem_cons_zero, List.getElem_cons_succ, List.setIfInBounds_toArray, List.set_cons_zero, List.set_cons_succ]
      refine wpAnyH_ready (rs := [11]) (by kernel_rfl) (by simp) ?_
      refine AllReadyH.cons rfl (fun K hK => ?_) AllReadyH.nil
      go_simp
      refine hK.out _ _ trivial (fun hHeld => ?_)
      clear hK K
      try simp only [Act.put, List.getElem_toArray, List.getElem_cons_zero, List.getElem_cons_succ, List.setIfInBounds_toArray, List.set_cons_zero, List.set_cons_succ]
      refine wpAnyH_done (by kernel_rfl) ?_ _
      obtain ⟨NM, hN⟩ : ∃ NM : ByteArray, NM = (⟨#[102]⟩ : ByteArray) ++ S1 ++ LT := ⟨_, rfl⟩
      rw [← hN] at hNM HSZ ⊢
      have hap := sN_step hi2
      rw [← hNM.out] at hap
      have HAP := Lib.hid hap
      clear hap hN hRp hL hc1 hc2 e1 e2 e3 e4 e5 e6 hHeld
      go_wp2_with fail
      refine (s_append h3 NM HSZ.out (IsB.nil _) (by decide) HAP.out).mono ?_
      rintro e w4 ⟨rfl, h4⟩
      have H4 := Lib.hid h4
      clear h4 h3
      go_wp2_with fail
      go_roundw
      case rel => exact ⟨i + 1, by go_num, by omega, H4.out⟩
      case measure => simp [intOf]; omega
    · have hi3 : i = 200 := by omega
      have g1 : decide ((i : Int) < 200) = false := decide_eq_false (by omega)
      have HZ := Lib.hid (sN_z hi3)
      have HF := Lib.hid (sN_fa hi3)
      have HM := Lib.hid (sM_len hi3)
      have HA := Lib.hid (sM_a hi3)
      clear hi3 hi2
      go_wp2_with fail
      refine (s_append h ⟨#[122]⟩ (by decide) (IsB.nil _) (by decide) HZ.out).mono ?_
      rintro e w4 ⟨rfl, h4⟩
      go_wp2_with fail
      refine (s_append (h4.alloc _) ⟨#[102, 97]⟩ (by decide) (bytes_lit w4 [49] #[.int .u8 49] 5 (1, 2) 1 rfl rfl) (by decide) HF.out).mono ?_
      rintro e w5 ⟨rfl, h5⟩
      obtain ⟨SM, hSM⟩ : ∃ SM, SM = sM i := ⟨_, rfl⟩
      rw [← hSM] at h5 HM HA
      clear hSM
      go_wp2_with fail
      refine (strings_Repeat ⟨#[97]⟩ 40 _ (by decide) (by decide)).mono ?_
      rintro e w6 ⟨rfl, hb6⟩
      obtain ⟨R, hR⟩ : ∃ R : ByteArray, R = ⟨(Lib.repeatL (⟨#[97]⟩ : ByteArray).data.toList 40).toArray⟩ := ⟨_, rfl⟩
      rw [← hR]
      have hRl : R.data.toList = List.replicate 40 97 := by rw [hR]; rfl
      have hRs : R.size ≤ maxLen := by rw [hR]; decide
      have HRS := Lib.hid hRs
      have HA2 := Lib.hid (HA.out _ hRl)
      have h6 := h5.below hb6
      clear hR hRl hRs hb6 h5 h4 h
      go_wp2_with fail
      refine (s_append h6 R HRS.out (IsB.nil _) (by decide) HA2.out).mono ?_
      rintro e w7 ⟨rfl, h7⟩
      go_wp2_with fail
      have hl := s_list h7
      rw [HM.out] at hl
      refine hl.mono ?_
      rintro e w8 ⟨AL, cL, rfl, -, h8⟩
      clear hl h7 h6
      go_wp2_with fail
      refine (awake2_any w8).mono ?_
      rintro e w9 ⟨rfl, hb9⟩
      go_wp2_with fail
      go_ret
      exact ⟨rfl, bst h8.bel hb9⟩
end Go.Proofs.Ytebpdlggkncliaa
