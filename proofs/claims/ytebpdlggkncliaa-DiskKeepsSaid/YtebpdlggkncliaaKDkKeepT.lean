/-
  DiskKeeps: what comes behind the swaps: the disk goes on, or it crashes, and each file is looked at.
-/
import Derived.Test.YtebpdlggkncliaaK4
import Derived.Test.YtebpdlggkncliaaKDkAwake
import Derived.Test.YtebpdlggkncliaaK6
import Derived.StillTailTactics
import Derived.Deep.CutRange
import Derived.Deep.QuietTactic
set_option linter.unusedVariables false
set_option linter.unusedSimpArgs false
namespace Go.Proofs.Ytebpdlggkncliaa
open Go.RowKit
open Go.Lib (byteCells byteCells_length byteCells_append)

theorem Sure.congr {s : St} {v v' : Nat → List UInt8} {m m' : Nat → Nat} {t : Nat → Bool} (h : Sure s v m t) (hv : ∀ k, k < 3 → v' k = v k ∧ m' k = m k) : Sure s v' m' t :=
  ⟨h.wf, fun k hk => by rw [(hv k hk).1, (hv k hk).2]; exact h.at_ k hk, fun k hk ht => by rw [(hv k hk).1, (hv k hk).2]; exact h.no k hk ht⟩
def headIs (n : Nat) : Code → Bool
  | .region k _ _ => k == n
  | .seq a _ => headIs n a
  | _ => false
def fromRegion (n : Nat) : Code → Option Code
  | .seq a b => if headIs n a then some (.seq a b) else match fromRegion n a with
    | some c => some c
    | none => fromRegion n b
  | .block _ c => fromRegion n c
  | .loop c => fromRegion n c
  | .scope c => fromRegion n c
  | .cond _ a b => match fromRegion n a with
    | some c => some c
    | none => fromRegion n b
  | _ => none
noncomputable def keepsTail : Code := ((Try.f5.body.bind (fromRegion 24)).getD .skip)
set_option maxRecDepth 1000000 in
set_option maxHeartbeats 20000000 in
theorem keeps_tail (w wc : World) (a bn ba bs bt : Nat) (s4 : St) (v2 : Nat → List UInt8) (mk2 : Nat → Nat) (t2 : Nat → Bool) (j T : Nat) (HK7 : Hid (KR w wc a bn ba bs bt s4 v2 mk2 t2)) (HS7 : Hid (Sure s4 v2 mk2 t2)) (HV7 : Hid (∀ k, k < 3 → (v2 k).length ≤ 100 * (j + 1)))
    (hT9 : T < 1000003) (KK : Act → World → Prop) (QQ : Exit → Act → World → Prop) (e0 e1 e2 e3 e7 e11 e13 e14 e18 e19 e20 e21 e22 e23 e24 e25 e26 e27 e28 e29 e30 e31 e32 e33 e34 e35 e36 e37 e38 e39 e40 e41 e42 e43 e44 e45 e46 e47 e48 e49 e50 e51 e52 e53 e54 e55 e56 e57 e58 e59 e60 e61 e62 e63 e64 e65 e66 e67 e68 e69 e70 e71 e72 e73 e74 e75 e76 e77 e78 e79 e80 e81 e82 e83 e84 e85 e86 e87 e88 e89 e90 e91 e92 e93 e94 e95 e96 e97 e98 e99 e100 e101 e102 e103 e104 e105 e106 e107 e108 e109 e110 e111 e112 e113 e114 e115 e116 e117 e118 e119 e120 e121 e122 e123 e124 e125 e126 e127 e128 e129 e130 e131 e132 e133 e134 e135 e136 e137 e138 e139 e140 e141 e142 e143 e144 e145 e146 e147 e148 e235 u4 u15 u16 u17 u149 u150 u151 u152 u153 u154 u155 u156 u157 u158 u159 u160 u161 u162 u163 u164 u165 u166 u167 u168 u169 u170 u171 u172 u173 u174 u175 u176 u177 u178 u179 u180 u181 u182 u183 u184 u185 u186 u187 u188 u189 u190 u191 u192 u193 u194 u195 u196 u197 u198 u199 u200 u201 u202 u203 u204 u205 u206 u207 u208 u209 u210 u211 u212 u213 u214 u215 u216 u217 u218 u219 u220 u221 u222 u223 u224 u225 u226 u227 u228 u229 u230 u231 u232 u233 u234 : Value)
    (hend : ∀ (s' : St) (v' : Nat → List UInt8) (mk' : Nat → Nat) (t' : Nat → Bool) (w' : World) (x4 x15 x16 x17 x149 x150 x151 x152 x153 x154 x155 x156 x157 x158 x159 x160 x161 x162 x163 x164 x165 x166 x167 x168 x169 x170 x171 x172 x173 x174 x175 x176 x177 x178 x179 x180 x181 x182 x183 x184 x185 x186 x187 x188 x189 x190 x191 x192 x193 x194 x195 x196 x197 x198 x199 x200 x201 x202 x203 x204 x205 x206 x207 x208 x209 x210 x211 x212 x213 x214 x215 x216 x217 x218 x219 x220 x221 x222 x223 x224 x225 x226 x227 x228 x229 x230 x231 x232 x233 x234 : Value), KR w w' a bn ba bs bt s' v' mk' t' → Sure s' v' mk' t' → (∀ k, k < 3 → (v' k).length ≤ 100 * (j + 1)) → KK ⟨List.toArray (e0 :: e1 :: e2 :: e3 :: x4 :: .slice (some ⟨bn, 0, none⟩) 3 3 :: .pointer (some ⟨a, 0, none⟩) :: e7 :: .pointer (some ⟨ba, 0, none⟩) :: .pointer (some ⟨bs, 0, none⟩) :: .pointer (some ⟨bt, 0, none⟩) :: e11 :: .int .i64 (T : Int) :: e13 :: e14 :: x15 :: x16 :: x17 :: e18 :: e19 :: e20 :: e21 :: e22 :: e23 :: e24 :: e25 :: e26 :: e27 :: e28 :: e29 :: e30 :: e31 :: e32 :: e33 :: e34 :: e35 :: e36 :: e37 :: e38 :: e39 :: e40 :: e41 :: e42 :: e43 :: e44 :: e45 :: e46 :: e47 :: e48 :: e49 :: e50 :: e51 :: e52 :: e53 :: e54 :: e55 :: e56 :: e57 :: e58 :: e59 :: e60 :: e61 :: e62 :: e63 :: e64 :: e65 :: e66 :: e67 :: e68 :: e69 :: e70 :: e71 :: e72 :: e73 :: e74 :: e75 :: e76 :: e77 :: e78 :: e79 :: e80 :: e81 :: e82 :: e83 :: e84 :: e85 :: e86 :: e87 :: e88 :: e89 :: e90 :: e91 :: e92 :: e93 :: e94 :: e95 :: e96 :: e97 :: e98 :: e99 :: e100 :: e101 :: e102 :: e103 :: e104 :: e105 :: e106 :: e107 :: e108 :: e109 :: e110 :: e111 :: e112 :: e113 :: e114 :: e115 :: e116 :: e117 :: e118 :: e119 :: e120 :: e121 :: e122 :: e123 :: e124 :: e125 :: e126 :: e127 :: e128 :: e129 :: e130 :: e131 :: e132 :: e133 :: e134 :: e135 :: e136 :: e137 :: e138 :: e139 :: e140 :: e141 :: e142 :: e143 :: e144 :: e145 :: e146 :: e147 :: e148 :: x149 :: x150 :: x151 :: x152 :: x153 :: x154 :: x155 :: x156 :: x157 :: x158 :: x159 :: x160 :: x161 :: x162 :: x163 :: x164 :: x165 :: x166 :: x167 :: x168 :: x169 :: x170 :: x171 :: x172 :: x173 :: x174 :: x175 :: x176 :: x177 :: x178 :: x179 :: x180 :: x181 :: x182 :: x183 :: x184 :: x185 :: x186 :: x187 :: x188 :: x189 :: x190 :: x191 :: x192 :: x193 :: x194 :: x195 :: x196 :: x197 :: x198 :: x199 :: x200 :: x201 :: x202 :: x203 :: x204 :: x205 :: x206 :: x207 :: x208 :: x209 :: x210 :: x211 :: x212 :: x213 :: x214 :: x215 :: x216 :: x217 :: x218 :: x219 :: x220 :: x221 :: x222 :: x223 :: x224 :: x225 :: x226 :: x227 :: x228 :: x229 :: x230 :: x231 :: x232 :: x233 :: x234 :: e235 :: []), []⟩ w') :
    Code.wp Try.prog keepsTail (Exit.inBlock 1 (Exit.then KK QQ)) ⟨List.toArray (e0 :: e1 :: e2 :: e3 :: u4 :: .slice (some ⟨bn, 0, none⟩) 3 3 :: .pointer (some ⟨a, 0, none⟩) :: e7 :: .pointer (some ⟨ba, 0, none⟩) :: .pointer (some ⟨bs, 0, none⟩) :: .pointer (some ⟨bt, 0, none⟩) :: e11 :: .int .i64 (T : Int) :: e13 :: e14 :: u15 :: u16 :: u17 :: e18 :: e19 :: e20 :: e21 :: e22 :: e23 :: e24 :: e25 :: e26 :: e27 :: e28 :: e29 :: e30 :: e31 :: e32 :: e33 :: e34 :: e35 :: e36 :: e37 :: e38 :: e39 :: e40 :: e41 :: e42 :: e43 :: e44 :: e45 :: e46 :: e47 :: e48 :: e49 :: e50 :: e51 :: e52 :: e53 :: e54 :: e55 :: e56 :: e57 :: e58 :: e59 :: e60 :: e61 :: e62 :: e63 :: e64 :: e65 :: e66 :: e67 :: e68 :: e69 :: e70 :: e71 :: e72 :: e73 :: e74 :: e75 :: e76 :: e77 :: e78 :: e79 :: e80 :: e81 :: e82 :: e83 :: e84 :: e85 :: e86 :: e87 :: e88 :: e89 :: e90 :: e91 :: e92 :: e93 :: e94 :: e95 :: e96 :: e97 :: e98 :: e99 :: e100 :: e101 :: e102 :: e103 :: e104 :: e105 :: e106 :: e107 :: e108 :: e109 :: e110 :: e111 :: e112 :: e113 :: e114 :: e115 :: e116 :: e117 :: e118 :: e119 :: e120 :: e121 :: e122 :: e123 :: e124 :: e125 :: e126 :: e127 :: e128 :: e129 :: e130 :: e131 :: e132 :: e133 :: e134 :: e135 :: e136 :: e137 :: e138 :: e139 :: e140 :: e141 :: e142 :: e143 :: e144 :: e145 :: e146 :: e147 :: e148 :: u149 :: u150 :: u151 :: u152 :: u153 :: u154 :: u155 :: u156 :: u157 :: u158 :: u159 :: u160 :: u161 :: u162 :: u163 :: u164 :: u165 :: u166 :: u167 :: u168 :: u169 :: u170 :: u171 :: u172 :: u173 :: u174 :: u175 :: u176 :: u177 :: u178 :: u179 :: u180 :: u181 :: u182 :: u183 :: u184 :: u185 :: u186 :: u187 :: u188 :: u189 :: u190 :: u191 :: u192 :: u193 :: u194 :: u195 :: u196 :: u197 :: u198 :: u199 :: u200 :: u201 :: u202 :: u203 :: u204 :: u205 :: u206 :: u207 :: u208 :: u209 :: u210 :: u211 :: u212 :: u213 :: u214 :: u215 :: u216 :: u217 :: u218 :: u219 :: u220 :: u221 :: u222 :: u223 :: u224 :: u225 :: u226 :: u227 :: u228 :: u229 :: u230 :: u231 :: u232 :: u233 :: u234 :: e235 :: []), []⟩ wc := by
  have HEND := Lib.hid hend
  clear hend
  conv => arg 2; whnf
  by_cases hgo : s4.down = false ∧ T / 9 % 5 ≠ 0
  · -- [H
    obtain ⟨hdn, h5⟩ := hgo
    have q5 : ((T : Int) / 9 % 5 != 0) = true := by
      rw [show (T : Int) / 9 % 5 = ((T / 9 % 5 : Nat) : Int) from rfl, bne_iff_ne]
      exact fun e => h5 (Int.ofNat_eq_zero.1 e)
    have hKD := Lib.hid (k_down HK7.out)
    rw [hdn] at hKD
    go_wp2_with fail
    refine hKD.out.mono ?_
    rintro e w' ⟨rfl, rfl⟩
    go_wp2_with fail
    exact HEND.out _ _ _ _ _ _ _ _ _ _ _ _ _ _ _ _ _ _ _ _ _ _ _ _ _ _ _ _ _ _ _ _ _ _ _ _ _ _ _ _ _ _ _ _ _ _ _ _ _ _ _ _ _ _ _ _ _ _ _ _ _ _ _ _ _ _ _ _ _ _ _ _ _ _ _ _ _ _ _ _ _ _ _ _ _ _ _ _ _ _ _ _ _ _ _ HK7.out HS7.out HV7.out
    -- H]
  · have hKD := Lib.hid (k_down HK7.out)
    have hbc : Below wc.heap.size wc (wc.alloc (.cells #[.int .i64 ((T : Int) / 35 % 50), .int .i64 ((T : Int) / 99 % 50), .int .i64 ((T : Int) / 7 % 50)] 3)) := (Below.refl _ _).alloc (Nat.le_refl _) _
    have hii : IsI (wc.alloc (.cells #[.int .i64 ((T : Int) / 35 % 50), .int .i64 ((T : Int) / 99 % 50), .int .i64 ((T : Int) / 7 % 50)] 3)) (some ⟨wc.heap.size, 0, none⟩) 3 3 [(T : Int) / 35 % 50, (T : Int) / 99 % 50, (T : Int) / 7 % 50] := ints_new wc [(T : Int) / 35 % 50, (T : Int) / 99 % 50, (T : Int) / 7 % 50] 3 (fun y hy => by
      simp only [List.mem_cons, List.not_mem_nil, or_false] at hy
      rcases hy with rfl | rfl | rfl <;> omega)
    have HCr := Lib.hid (k_crash HK7.out HS7.out hbc hii (by decide) (fun ad e => by injection e with e; subst e; exact Nat.le_refl _))
    clear hbc hii
    go_upto_region 24 with fail
    go_cut [157] from 149 to 157 (fun cv wx => cv = .bool false ∧ wx = wc)
    case first =>
      -- [I
      cases hdn : s4.down with
      | false =>
        have h5 : T / 9 % 5 = 0 := Decidable.byContradiction fun h => hgo ⟨hdn, h⟩
        have q5 : ((T : Int) / 9 % 5 != 0) = false := by
          rw [show (T : Int) / 9 % 5 = ((T / 9 % 5 : Nat) : Int) from rfl, h5]
          rfl
        rw [hdn] at hKD
        go_wp2_with fail
        refine hKD.out.mono ?_
        rintro e w' ⟨rfl, rfl⟩
        go_wp2_with fail
        go_meet
        exact ⟨rfl, rfl⟩
      | true =>
        rw [hdn] at hKD
        go_wp2_with fail
        refine hKD.out.mono ?_
        rintro e w' ⟨rfl, rfl⟩
        go_wp2_with fail
        go_meet
        exact ⟨rfl, rfl⟩
      -- I]
    case rest =>
    obtain ⟨rfl, rfl⟩ := hcut
    go_wp2_with fail
    refine HCr.out.mono ?_
    rintro e w2 ⟨s5, qq, rfl, hK8, hq8, hS8, hd8⟩
    go_wp2_with fail
    have HK8 := Lib.hid hK8
    have HQ8 := Lib.hid hq8
    have HS8 := Lib.hid hS8
    clear hK8 hq8 hS8 HK7 HS7 hKD HCr
    go_loopw [15] (fun q wq => ∃ (i : Nat) (v' : Nat → List UInt8) (m' : Nat → Nat), q = .int .i64 (i : Int) ∧ i ≤ 3 ∧ KR w wq a bn ba bs bt s5 v' m' t2 ∧ Hid (∀ k, k < 3 → (k < i → v' k = (v2 k).take (qq k) ∧ m' k = qq k) ∧ (i ≤ k → v' k = v2 k ∧ m' k = mk2 k))) (fun q _ => 3 - (intOf q).toNat)
    case atStart => exact ⟨0, v2, mk2, rfl, by omega, HK8.out, fun k hk => ⟨fun h => absurd h (Nat.not_lt_zero _), fun _ => ⟨rfl, rfl⟩⟩⟩
    case round =>
      obtain ⟨i, v', m', rfl, hi, hKi, hIn⟩ := hrel
      by_cases hi3 : i < 3
      · have g1 : decide ((i : Int) < 3) = true := decide_eq_true (by omega)
        have i0 : (0 : Int) ≤ (i : Int) := Int.natCast_nonneg _
        have i1 : (i : Int) < 3 := by omega
        have hnm := hKi.name hi3
        obtain ⟨hvi, hmi⟩ := (hIn.out i hi3).2 (Nat.le_refl _)
        have hqi := HQ8.out i hi3
        obtain ⟨G', hG'⟩ : ∃ G' : Nat, Hid (G' = if t2 i = true then 0 else 13) := ⟨_, rfl⟩
        have hGb : ((G' : Int) == 0) = t2 i := by rw [hG'.out]; cases t2 i <;> rfl
        have hrd := k_read hKi HS8.out hd8 hi3 (nmS i) (nmS_list i) (nmS_size i)
        rw [← hG'.out] at hrd
        have HRd := Lib.hid hrd
        have HKi := Lib.hid hKi
        clear hrd hKi
        go_wp2_with fail
        refine HRd.out.mono ?_
        rintro e w3 ⟨Ab, nb, cb, rfl, hIb, hAb, hbb⟩
        have hK3' := HKi.out.below hbb
        have hnb : nb = qq i := by rw [← hIb.len, List.length_take]; exact Nat.min_eq_left hqi.2
        obtain ⟨Ar, nr, cr, hcr, hIr, -⟩ := hK3'.rowAt hi3
        rw [hvi] at hIr
        have hnr : nr = (v2 i).length := hIr.len.symm
        have hnbr : nb ≤ nr := by rw [hnb, hnr]; exact hqi.2
        have hcap := hIr.cap
        have hmk := hK3'.mark hi3
        rw [hmi] at hmk
        have his := hK3'.is_ hi3
        have hbn1 : (t2 i != t2 i) = false := by simp
        have g2 : decide ((nb : Int) < (mk2 i : Int)) = false := decide_eq_false (by rw [hnb]; have := hqi.1; omega)
        have hle : mk2 i ≤ nb := by rw [hnb]; exact hqi.1
        have g3 : decide ((nr : Int) < (nb : Int)) = false := decide_eq_false (by omega)
        have g4 : (0 : Int) ≤ (nb : Int) := Int.natCast_nonneg _
        have g5 : (nb : Int) ≤ (cr : Int) := Int.ofNat_le.2 (Nat.le_trans hnbr hcap)
        have g6 : ((qq i : Int) != (nb : Int)) = false := by rw [hnb]; simp
        have hIt : IsB w3 Ar nb cr ((v2 i).take (qq i)) := by
          have h := hIr.toB hnbr
          rw [hnb] at h ⊢
          exact h
        have hsm := samebytes_any hIb hIt
        rw [decide_eq_true rfl] at hsm
        have HSm := Lib.hid hsm
        have HSy := Lib.hid (k_synced hK3' HS8.out hi3 (nmS i) (nmS_list i) (nmS_size i))
        have HK9 := Lib.hid (HKi.out.store hbb hIb hAb hi3)
        have hfr := (hK3'.frees i).1
        have hnm3 := hK3'.name hi3
        have HNB := Lib.hid hnb
        clear hIb hAb hbb hIr hIt hsm HRd hnm hnb hnr hvi hmi hqi
        go_wp2_with fail
        refine HSm.out.mono ?_
        rintro e w' ⟨rfl, rfl⟩
        go_wp2_with fail
        refine HSy.out.mono ?_
        rintro e w' ⟨rfl, rfl⟩
        have hf9 := (HK9.out.frees i).2.1
        have hm9 := HK9.out.mark hi3
        have HK10 := Lib.hid (HK9.out.setMark hi3 nb)
        have hIn2 : Hid (∀ k, k < 3 → (k < i + 1 → upd v' i ((v2 i).take (qq i)) k = (v2 k).take (qq k) ∧ upd m' i nb k = qq k) ∧ (i + 1 ≤ k → upd v' i ((v2 i).take (qq i)) k = v2 k ∧ upd m' i nb k = mk2 k)) := fun k hk => by
          by_cases hki : k = i
          · subst hki
            exact ⟨fun _ => ⟨upd_self _ _ _, by rw [upd_self]; exact HNB.out⟩, fun h => absurd h (by omega)⟩
          · rw [upd_ne _ _ hki, upd_ne _ _ hki]
            exact ⟨fun h => (hIn.out k hk).1 (by omega), fun h => (hIn.out k hk).2 (by omega)⟩
        clear HSm HSy
        go_wp2_with fail
        go_roundw
        case rel => exact ⟨i + 1, _, _, by go_num, by omega, HK10.out, hIn2⟩
        case measure => simp [intOf]; omega
      · obtain rfl : i = 3 := by omega
        have hS9 : Sure s5 v' m' t2 := HS8.out.congr fun k hk => (hIn.out k hk).1 hk
        have hV9 : Hid (∀ k, k < 3 → (v' k).length ≤ 100 * (j + 1)) := fun k hk => by
          rw [((hIn.out k hk).1 hk).1, List.length_take]
          exact Nat.le_trans (Nat.min_le_right _ _) (HV7.out k hk)
        have HK9 := Lib.hid hKi
        have HS9 := Lib.hid hS9
        clear hKi hS9
        go_wp2_with fail
        exact HEND.out _ _ _ _ _ _ _ _ _ _ _ _ _ _ _ _ _ _ _ _ _ _ _ _ _ _ _ _ _ _ _ _ _ _ _ _ _ _ _ _ _ _ _ _ _ _ _ _ _ _ _ _ _ _ _ _ _ _ _ _ _ _ _ _ _ _ _ _ _ _ _ _ _ _ _ _ _ _ _ _ _ _ _ _ _ _ _ _ _ _ _ _ _ _ _ HK9.out HS9.out hV9.out
end Go.Proofs.Ytebpdlggkncliaa
