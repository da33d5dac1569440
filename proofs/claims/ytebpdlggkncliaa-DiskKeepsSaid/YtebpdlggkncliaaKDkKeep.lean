/-
  DiskKeeps: what is synced is there behind any crash, as it was; what is not is there up to some place, and nothing else is.
-/
import Derived.Test.YtebpdlggkncliaaKDkKeepT
import Derived.Test.YtebpdlggkncliaaKDkAwake
import Derived.Test.YtebpdlggkncliaaK4
import Derived.Test.YtebpdlggkncliaaK6
import Derived.StillTailTactics
import Derived.Deep.CutRange
import Derived.Deep.QuietTactic
set_option linter.unusedVariables false
set_option linter.unusedSimpArgs false
namespace Go.Proofs.Ytebpdlggkncliaa
open Go.RowKit
open Go.Lib (byteCells byteCells_length byteCells_append)

structure PcK where
  B : Option Addr
  n : Nat
  c : Nat
  l : List UInt8
def PcK.ok (w : World) (x : PcK) : Prop := IsB w x.B x.n x.c x.l ∧ x.n ≤ maxLen
theorem PcK.ok.below {w w' : World} {x : PcK} (h : x.ok w) (hb : Below w.heap.size w w') : x.ok w' := ⟨h.1.below hb, h.2⟩
theorem KR.other {w0 w : World} {a bn ba bs bt : Nat} {s : St} {v : Nat → List UInt8} {m : Nat → Nat} {t : Nat → Bool} (h : KR w0 w a bn ba bs bt s v m t) {k o : Nat} (hko : o ≠ k) (x : Value) {y : Value} (hy : w.cell? ⟨ba, k, none⟩ = some y) : (w.setCell ⟨ba, o, none⟩ x).cell? ⟨ba, k, none⟩ = some y := by
  obtain ⟨G, _, hm, _⟩ := h
  obtain ⟨cs, hcs, _⟩ := hm.rows
  rw [cell_of_row _ _ _ _ _ _ hcs] at hy
  rw [cell_of_row _ _ _ _ _ _ (setCell_self w ba o x hcs), Array.getElem?_setIfInBounds_ne hko]
  exact hy
theorem KR.far {w0 w : World} {a bn ba bs bt : Nat} {s : St} {v : Nat → List UInt8} {m : Nat → Nat} {t : Nat → Bool} (h : KR w0 w a bn ba bs bt s v m t) {k o : Nat} (x : Value) {y : Value} (hy : w.cell? ⟨ba, k, none⟩ = some y) : (w.setCell ⟨bs, o, none⟩ x).cell? ⟨ba, k, none⟩ = some y ∧ (w.setCell ⟨bt, o, none⟩ x).cell? ⟨ba, k, none⟩ = some y := by
  obtain ⟨G, _, hm, _⟩ := h
  have h1 := hm.apart.2.1
  have h2 := hm.apart.2.2.1
  exact ⟨(World.cell?_of_block (Below.heap_setCell w ⟨bs, o, none⟩ x ba (fun e => h1 e))).trans hy, (World.cell?_of_block (Below.heap_setCell w ⟨bt, o, none⟩ x ba (fun e => h2 e))).trans hy⟩
set_option maxRecDepth 100000 in
set_option maxHeartbeats 20000000 in
theorem keeps_walk (w : World) (A : Option Addr) (n c : Nat) (xs : List PcK) (hX : IsL 1 (fun cs (x : PcK) => cs = [.slice x.B x.n x.c] ∧ x.ok w) w A n c xs) (B : Option Addr) (m d : Nat) (zs : List Int) (hZ : IsI w B m d zs) (hn : n ≤ maxLen) (hm : m ≤ maxLen) :
    Calls Try.prog 5 #[.slice A n c, .slice B m d] w fun e w' => e = .returned (.bool true) ∧ Below w.heap.size w w' := by
  have HX := Lib.hid hX
  have HZ := Lib.hid hZ
  clear hX hZ
  go_enter Try.func5, Try.ntmps5
  go_wp2_with fail
  have hb1 : Below w.heap.size w (w.alloc (.cells #[.string ⟨#[97]⟩, .string ⟨#[98]⟩, .string ⟨#[99]⟩] 9)) := (Below.refl _ _).alloc (Nat.le_refl _) _
  have hn1 := heap_alloc_new w (.cells #[.string ⟨#[97]⟩, .string ⟨#[98]⟩, .string ⟨#[99]⟩] 9)
  generalize w.alloc (.cells #[.string ⟨#[97]⟩, .string ⟨#[98]⟩, .string ⟨#[99]⟩] 9) = w1 at hb1 hn1 ⊢
  refine (new_any 1048576 w1 (by decide)).mono ?_
  rintro e w2 ⟨a, G, rfl, hD, hG, hb2⟩
  have hn2 := (hb2.block _ (heap_lt hn1)).trans hn1
  go_wp2_with fail
  have hz3 : (w2.alloc (.cells #[.slice none 0 0, .slice none 0 0, .slice none 0 0] 62)).heap.size = w2.heap.size + 1 := Array.size_push _
  have hz4 : ((w2.alloc (.cells #[.slice none 0 0, .slice none 0 0, .slice none 0 0] 62)).alloc (.cells #[.int .i64 0, .int .i64 0, .int .i64 0] 63)).heap.size = w2.heap.size + 2 := by rw [show ((w2.alloc (.cells #[.slice none 0 0, .slice none 0 0, .slice none 0 0] 62)).alloc (.cells #[.int .i64 0, .int .i64 0, .int .i64 0] 63)).heap.size = (w2.alloc (.cells #[.slice none 0 0, .slice none 0 0, .slice none 0 0] 62)).heap.size + 1 from Array.size_push _, hz3]
  have hB5 : Below w2.heap.size w2 (((w2.alloc (.cells #[.slice none 0 0, .slice none 0 0, .slice none 0 0] 62)).alloc (.cells #[.int .i64 0, .int .i64 0, .int .i64 0] 63)).alloc (.cells #[.bool false, .bool false, .bool false] 64)) := (((Below.refl _ _).alloc (Nat.le_refl _) _).alloc (by rw [hz3]; omega) _).alloc (by rw [hz4]; omega) _
  have c3 : (((w2.alloc (.cells #[.slice none 0 0, .slice none 0 0, .slice none 0 0] 62)).alloc (.cells #[.int .i64 0, .int .i64 0, .int .i64 0] 63)).alloc (.cells #[.bool false, .bool false, .bool false] 64)).heap[w2.heap.size]? = some (.cells #[.slice none 0 0, .slice none 0 0, .slice none 0 0] 62 (0, 0)) := (heap_alloc_old _ _ (by rw [hz4]; omega)).trans ((heap_alloc_old _ _ (by rw [hz3]; omega)).trans (heap_alloc_new _ _))
  have c4 : (((w2.alloc (.cells #[.slice none 0 0, .slice none 0 0, .slice none 0 0] 62)).alloc (.cells #[.int .i64 0, .int .i64 0, .int .i64 0] 63)).alloc (.cells #[.bool false, .bool false, .bool false] 64)).heap[w2.heap.size + 1]? = some (.cells #[.int .i64 0, .int .i64 0, .int .i64 0] 63 (0, 0)) := (heap_alloc_old _ _ (by rw [hz4]; omega)).trans (by have := heap_alloc_new (w2.alloc (.cells #[.slice none 0 0, .slice none 0 0, .slice none 0 0] 62)) (.cells #[.int .i64 0, .int .i64 0, .int .i64 0] 63); rwa [hz3] at this)
  have c5 : (((w2.alloc (.cells #[.slice none 0 0, .slice none 0 0, .slice none 0 0] 62)).alloc (.cells #[.int .i64 0, .int .i64 0, .int .i64 0] 63)).alloc (.cells #[.bool false, .bool false, .bool false] 64)).heap[w2.heap.size + 2]? = some (.cells #[.bool false, .bool false, .bool false] 64 (0, 0)) := by have := heap_alloc_new ((w2.alloc (.cells #[.slice none 0 0, .slice none 0 0, .slice none 0 0] 62)).alloc (.cells #[.int .i64 0, .int .i64 0, .int .i64 0] 63)) (.cells #[.bool false, .bool false, .bool false] 64); rwa [hz4] at this
  generalize ((w2.alloc (.cells #[.slice none 0 0, .slice none 0 0, .slice none 0 0] 62)).alloc (.cells #[.int .i64 0, .int .i64 0, .int .i64 0] 63)).alloc (.cells #[.bool false, .bool false, .bool false] 64) = W at hB5 c3 c4 c5 ⊢
  have hn5 := (hB5.block _ (heap_lt hn2)).trans hn2
  have hlt := heap_lt hn2
  have hlt1 := heap_lt hn1
  have hs2 := hb2.size
  have hKR : KR w W a w.heap.size w2.heap.size (w2.heap.size + 1) (w2.heap.size + 2) (St.new 1048576) (fun _ => []) (fun _ => 0) (fun _ => false) := by
    refine ⟨G, hD.below hB5, ⟨hn5, ⟨_, c3, rfl, fun k hk => ⟨none, 0, 0, ?_, IsB.nil _, fun ad e => by cases e⟩⟩, ⟨_, c4, rfl, fun k hk => ?_⟩, ⟨_, c5, rfl, fun k hk => ?_⟩, ⟨fun e => ?_, fun e => ?_, fun e => ?_, fun e => ?_⟩, ?_⟩, fun b e => ?_, ?_, ?_⟩
    · match k, hk with
      | 0, _ => rfl
      | 1, _ => rfl
      | 2, _ => rfl
    · match k, hk with
      | 0, _ => rfl
      | 1, _ => rfl
      | 2, _ => rfl
    · match k, hk with
      | 0, _ => rfl
      | 1, _ => rfl
      | 2, _ => rfl
    · have := hG _ e; omega
    · have := hD.2.1 _ e; omega
    · have := hD.2.1 _ e; omega
    · have := hD.2.1 _ e; omega
    · omega
    · have := hG b e; have := hb1.size; omega
    · omega
    · exact (hb1.trans (hb2.mono hb1.size)).trans (hB5.mono (by omega))
  generalize w2.heap.size + 2 = bt at hKR ⊢
  generalize w2.heap.size + 1 = bs at hKR ⊢
  generalize w2.heap.size = ba at hKR ⊢
  generalize hbn : w.heap.size = bn at hKR ⊢
  have HKR := Lib.hid hKR
  clear hKR hB5 c3 c4 c5 hz3 hz4 hn5 hlt hlt1 hs2 hn1 hn2 hD hG hb1 hb2
  go_loopw [11] (fun q wr => ∃ (j : Nat) (s : St) (v : Nat → List UInt8) (mk : Nat → Nat) (t : Nat → Bool), q = .int .i64 (j : Int) ∧ j ≤ 40 ∧ KR w wr a bn ba bs bt s v mk t ∧ Hid (Sure s v mk t) ∧ Hid (∀ k, k < 3 → (v k).length ≤ 100 * j)) (fun q _ => 40 - (intOf q).toNat)
  case atStart => exact ⟨0, St.new 1048576, fun _ => [], fun _ => 0, fun _ => false, rfl, by omega, HKR.out, Sure.new (by decide), fun _ _ => Nat.le_refl _⟩
  case round =>
    clear HKR
    obtain ⟨j, s, v, mk, t, rfl, hj, hK, hS, hV⟩ := hrel
    have hbw := hK.bel
    have hnl := HX.out.len
    by_cases hjn : j < n ∧ j < 40 ∧ j < m
    · obtain ⟨hjn, hj40, hjm⟩ := hjn
      have e1 : decide ((j : Int) < (n : Int)) = true := decide_eq_true (by omega)
      have e2 : decide ((j : Int) < 40) = true := decide_eq_true (by omega)
      have e3 : decide ((j : Int) < (m : Int)) = true := decide_eq_true (by omega)
      have q0 : (0 : Int) ≤ (j : Int) := Int.natCast_nonneg _
      obtain ⟨bl, ol, x, cs, rfl, hx, _, hat, rfl, hok⟩ := HX.out.at_ hjn
      have b0 : w.cell? ⟨bl, ol + j, none⟩ = some (.slice x.B x.n x.c) := by have := hat 0 _ rfl; rwa [Nat.mul_one, Nat.add_zero] at this
      have x0 := cell_below hbw _ _ b0
      have HB0 := Lib.hid b0
      have HOK := Lib.hid hok
      clear hat hx b0 hok
      by_cases hlong : 100 < x.n
      · have d1 : decide ((100 : Int) < (x.n : Int)) = true := decide_eq_true (by omega)
        have HK := Lib.hid hK
        have hV2 : Hid (∀ k, k < 3 → (v k).length ≤ 100 * (j + 1)) := fun k hk => Nat.le_trans (hV.out k hk) (by omega)
        clear hK hbw
        go_wp2_with fail
        go_roundw
        case rel => exact ⟨j + 1, s, v, mk, t, by go_num, by omega, HK.out, hS, hV2⟩
        case measure => simp [intOf]; omega
      · have d1 : decide ((100 : Int) < (x.n : Int)) = false := decide_eq_false (by omega)
        obtain ⟨bz, oz, z, rfl, hz, c0⟩ : ∃ bz oz z, B = some ⟨bz, oz, none⟩ ∧ zs[j]? = some z ∧ w.cell? ⟨bz, oz + j, none⟩ = some (.int .i64 z) := by
          have hl := HZ.out.len
          have hz : zs[j]? = some (zs[j]'(by omega)) := List.getElem?_eq_getElem (by omega)
          rcases HZ.out.src with h0 | ⟨b, o, hB, hc⟩
          · rw [h0] at hl; simp at hl; omega
          · exact ⟨b, o, _, hB, hz, hc j _ hz⟩
        have hzr := HZ.out.rng z (List.mem_of_getElem? hz)
        have z0 := cell_below hbw _ _ c0
        have HP := Lib.hid (fun u : World => pick_any z 1000003 u (by decide) hzr)
        obtain ⟨T, hT⟩ : ∃ T : Nat, Hid (T = pickOf z 1000003) := ⟨_, rfl⟩
        have hT9 : T < 1000003 := by rw [hT.out]; exact pickOf_lt z (by decide)
        rw [← hT.out] at HP
        obtain ⟨K, hKd⟩ : ∃ K : Nat, Hid (K = T % 3) := ⟨_, rfl⟩
        obtain ⟨O, hOd⟩ : ∃ O : Nat, Hid (O = T / 3 % 3) := ⟨_, rfl⟩
        have hK3 : K < 3 := by rw [hKd.out]; omega
        have hO3 : O < 3 := by rw [hOd.out]; omega
        have eK : (T : Int) % 3 = (K : Int) := by rw [hKd.out]; omega
        have eO : (T : Int) / 3 % 3 = (O : Int) := by rw [hOd.out]; omega
        have HK := Lib.hid hK
        clear hK hbw c0 hz
        go_wp2_with fail
        refine (HP.out wr).mono ?_
        rintro e w' ⟨rfl, rfl⟩
        clear HP x0 z0
        go_upto_if 60 with fail
        rw [eK, eO]
        go_cut [] from 53 to 65 (fun wx => ∃ s' : St, KR w wx a bn ba bs bt s' v mk t ∧ Sure s' v mk t)
        case first =>
          -- [A
          by_cases h7 : T / 9 % 7 = 0
          · have q7 : ((T : Int) / 9 % 7 == 0) = true := by rw [beq_iff_eq]; omega
            go_wp2_with fail
            refine (k_arm HK.out hS.out ((T : Int) / 63 % 4) (by omega) (by omega)).mono ?_
            rintro e w2 ⟨s', rfl, hK2, hS2⟩
            go_wp2_with fail
            go_meet
            exact ⟨s', hK2, hS2⟩
          · have q7 : ((T : Int) / 9 % 7 == 0) = false := by rw [beq_eq_false_iff_ne]; omega
            go_wp2_with fail
            go_meet
            exact ⟨s, HK.out, hS.out⟩
          -- A]
        case rest =>
        obtain ⟨s1, hK1, hS1⟩ := hcut
        have hnm := hK1.name hK3
        have hxc := cell_below hK1.bel _ _ HB0.out
        have k0 : (0 : Int) ≤ (K : Int) := Int.natCast_nonneg _
        have k1 : (K : Int) < 3 := by omega
        have HK1 := Lib.hid hK1
        have HS1 := Lib.hid hS1
        clear hK1 hS1 HK hS eK eO
        go_upto_region 16 with fail
        go_cut [76] from 66 to 76 (fun cv wx => ∃ (b : Bool) (s' : St), cv = .bool b ∧ KR w wx a bn ba bs bt s' v mk t ∧ ((b = false ∧ Sure s' v mk t) ∨ (b = true ∧ Sure s' (upd v K (v K ++ x.l)) mk (upd t K true))))
        case first =>
          -- [B
          refine wp_region_held_drew (S := fun w' => w'.cell? ⟨bn, K, none⟩ = some (.string (nmS K)) ∧ w'.cell? ⟨bl, ol + j, none⟩ = some (.slice x.B x.n x.c)) (by kernel_rfl) ⟨hnm, hxc⟩ (fun hHeld => ?_)
          have hKd1 : KR w wc.drew a bn ba bs bt s1 v mk t := HK1.out.below (Below.refl _ wc).drew
          generalize wc.drew = wd at hHeld hKd1 ⊢
          refine wpAnyH_take (i := 0) (v := ?_) rfl (by kernel_rfl) (by kernel_rfl) (by kernel_rfl) (fun _ _ _ h => h) (Or.inl ⟨by rfl, ?_⟩) hHeld ?_
          rotate_left
          · (intro w hSw; obtain ⟨z0, z1⟩ := hSw; go_simp <;> rfl)
          simp only [Act.put, List.getElem_toArray, List.getElem_cons_zero, List.getElem_cons_succ, List.setIfInBounds_toArray, List.set_cons_zero, List.set_cons_succ]
          refine wpAnyH_take (i := 1) (v := ?_) rfl (by kernel_rfl) (by kernel_rfl) (by kernel_rfl) (fun _ _ _ h => h) (Or.inl ⟨by rfl, ?_⟩) hHeld ?_
          rotate_left
          · (intro w hSw; obtain ⟨z0, z1⟩ := hSw; go_simp <;> rfl)
          simp only [Act.put, List.getElem_toArray, List.getElem_cons_zero, List.getElem_cons_succ, List.setIfInBounds_toArray, List.set_cons_zero, List.set_cons_succ]
          refine wpAnyH_take (i := 2) (v := ?_) rfl (by kernel_rfl) (by kernel_rfl) (by kernel_rfl) (fun _ _ _ h => h) (Or.inl ⟨by rfl, ?_⟩) hHeld ?_
          rotate_left
          · (intro w hSw; obtain ⟨z0, z1⟩ := hSw; go_simp <;> rfl)
          simp only [Act.put, List.getElem_toArray, List.getElem_cons_zero, List.getElem_cons_succ, List.setIfInBounds_toArray, List.set_cons_zero, List.set_cons_succ]
          refine wpAnyH_take (i := 3) (v := ?_) rfl (by kernel_rfl) (by kernel_rfl) (by kernel_rfl) (fun _ _ _ h => h) (Or.inl ⟨by rfl, ?_⟩) hHeld ?_
          rotate_left
          · (intro w hSw; obtain ⟨z0, z1⟩ := hSw; go_simp <;> rfl)
          simp only [Act.put, List.getElem_toArray, List.getElem_cons_zero, List.getElem_cons_succ, List.setIfInBounds_toArray, List.set_cons_zero, List.set_cons_succ]
          refine wpAnyH_take (i := 4) (v := ?_) rfl (by kernel_rfl) (by kernel_rfl) (by kernel_rfl) (fun _ _ _ h => h) (Or.inl ⟨by rfl, ?_⟩) hHeld ?_
          rotate_left
          · (intro w hSw; obtain ⟨z0, z1⟩ := hSw; go_simp <;> rfl)
          simp only [Act.put, List.getElem_toArray, List.getElem_cons_zero, List.getElem_cons_succ, List.setIfInBounds_toArray, List.set_cons_zero, List.set_cons_succ]
          refine wpAnyH_take (i := 5) (v := ?_) rfl (by kernel_rfl) (by kernel_rfl) (by kernel_rfl) (fun _ _ _ h => h) (Or.inl ⟨by rfl, ?_⟩) hHeld ?_
          rotate_left
          · (intro w hSw; obtain ⟨z0, z1⟩ := hSw; go_simp <;> rfl)
          simp only [Act.put, List.getElem_toArray, List.getElem_cons_zero, List.getElem_cons_succ, List.setIfInBounds_toArray, List.set_cons_zero, List.set_cons_succ]
          refine wpAnyH_take (i := 6) (v := ?_) rfl (by kernel_rfl) (by kernel_rfl) (by kernel_rfl) (fun _ _ _ h => h) (Or.inl ⟨by rfl, ?_⟩) hHeld ?_
          rotate_left
          · (intro w hSw; obtain ⟨z0, z1⟩ := hSw; go_simp <;> rfl)
          simp only [Act.put, List.getElem_toArray, List.getElem_cons_zero, List.getElem_cons_succ, List.setIfInBounds_toArray, List.set_cons_zero, List.set_cons_succ]
          refine wpAnyH_take (i := 7) (v := ?_) rfl (by kernel_rfl) (by kernel_rfl) (by kernel_rfl) (fun _ _ _ h => h) (Or.inl ⟨by rfl, ?_⟩) hHeld ?_
          rotate_left
          · (intro w hSw; obtain ⟨z0, z1⟩ := hSw; go_simp <;> rfl)
          simp only [Act.put, List.getElem_toArray, List.getElem_cons_zero, List.getElem_cons_succ, List.setIfInBounds_toArray, List.set_cons_zero, List.set_cons_succ]
          refine wpAnyH_take (i := 8) (v := ?_) rfl (by kernel_rfl) (by kernel_rfl) (by kernel_rfl) (fun _ _ _ h => h) (Or.inl ⟨by rfl, ?_⟩) hHeld ?_
          rotate_left
          · (intro w hSw; obtain ⟨z0, z1⟩ := hSw; go_simp <;> rfl)
          simp only [Act.put, List.getElem_toArray, List.getElem_cons_zero, List.getElem_cons_succ, List.setIfInBounds_toArray, List.set_cons_zero, List.set_cons_succ]
          refine wpAnyH_ready (rs := [9]) (by kernel_rfl) (by simp) ?_
          refine AllReadyH.cons rfl (fun K' hK' => ?_) AllReadyH.nil
          go_simp
          refine (k_append hKd1 HS1.out hK3 (nmS K) (nmS_list K) (nmS_size K) (HOK.out.1.below hKd1.bel) HOK.out.2).mono ?_
          rintro e w2 ⟨er, s', rfl, hK2, hS2, hb2, -⟩
          dsimp only
          refine hK'.out _ _ ⟨hK2.name hK3, cell_below hb2 _ _ HB0.out⟩ (fun hHeld => ?_)
          clear hK' K'
          try simp only [Act.put, List.getElem_toArray, List.getElem_cons_zero, List.getElem_cons_succ, List.setIfInBounds_toArray, List.set_cons_zero, List.set_cons_succ]
          refine wpAnyH_ready (rs := [10]) (by kernel_rfl) (by simp) ?_
          refine AllReadyH.cons rfl (fun K' hK' => ?_) AllReadyH.nil
          go_simp
          refine hK'.out _ _ ⟨hK2.name hK3, cell_below hb2 _ _ HB0.out⟩ (fun hHeld => ?_)
          clear hK' K'
          try simp only [Act.put, List.getElem_toArray, List.getElem_cons_zero, List.getElem_cons_succ, List.setIfInBounds_toArray, List.set_cons_zero, List.set_cons_succ]
          refine wpAnyH_done (by kernel_rfl) ?_ _
          clear hHeld hnm hxc
          go_wp2_with fail
          go_meet
          refine ⟨((er : Int) == 0), s', rfl, hK2, ?_⟩
          rcases hS2 with ⟨h0, h1⟩ | ⟨h0, h1⟩
          · exact .inl ⟨by rw [beq_eq_false_iff_ne]; omega, h1⟩
          · exact .inr ⟨by rw [h0]; rfl, h1⟩
          -- B]
        case rest =>
        obtain ⟨b, s2, rfl, hK2, hS2⟩ := hcut
        have hxl : x.l.length ≤ 100 := by rw [HOK.out.1.len]; omega
        have HK2 := Lib.hid hK2
        have HS2 := Lib.hid hS2
        clear hK2 hS2 HK1 HS1 hnm hxc
        go_upto_if 76 with fail
        go_cut [] from 77 to 89 (fun wx => ∃ (v' : Nat → List UInt8) (t' : Nat → Bool), KR w wx a bn ba bs bt s2 v' mk t' ∧ Sure s2 v' mk t' ∧ ∀ k, k < 3 → (v' k).length ≤ 100 * (j + 1))
        case first =>
          rcases HS2.out with ⟨rfl, hS2⟩ | ⟨rfl, hS2⟩
          · have hV2 : ∀ k, k < 3 → (v k).length ≤ 100 * (j + 1) := fun k hk => Nat.le_trans (hV.out k hk) (by omega)
            go_wp2_with fail
            go_meet
            exact ⟨v, t, HK2.out, hS2, hV2⟩
          · have hV2 : ∀ k, k < 3 → (upd v K (v K ++ x.l) k).length ≤ 100 * (j + 1) := fun k hk => by
              by_cases hkK : k = K
              · subst hkK; rw [upd_self, List.length_append]; have := hV.out k hk; omega
              · rw [upd_ne _ _ hkK]; exact Nat.le_trans (hV.out k hk) (by omega)
            -- [C
            obtain ⟨Aq, nq, cq, hcq, hIq, -⟩ := HK2.out.rowAt hK3
            have hxc := cell_below HK2.out.bel _ _ HB0.out
            have hlq := hIq.len
            have hvq := hV.out K hK3
            have hfz := (HK2.out.frees K).1
            have HV2 := Lib.hid hV2
            have HS3 := Lib.hid hS2
            clear hV2 hS2
            go_wp2_with fail
            refine wp_region_held_drew (S := fun w' => w'.cell? ⟨bl, ol + j, none⟩ = some (.slice x.B x.n x.c)) (by kernel_rfl) hxc (fun hHeld => ?_)
            have hbd : Below wc.heap.size wc wc.drew := (Below.refl _ wc).drew
            have hcd := cell_below hbd _ _ hcq
            have hxd := cell_below hbd _ _ hxc
            have HId := Lib.hid (hIq.below hbd)
            have hKd := HK2.out.below hbd
            have hzd : wc.drew.heap.size = wc.heap.size := rfl
            generalize wc.drew = wd at hHeld hbd hcd hxd HId hKd hzd ⊢
            refine wpAnyH_take (i := 0) (v := ?_) rfl (by kernel_rfl) (by kernel_rfl) (by kernel_rfl) (fun _ _ _ h => h) (Or.inl ⟨by rfl, ?_⟩) hHeld ?_
            rotate_left
            · (intro w hSw; have z1 := hSw; go_simp <;> rfl)
            simp only [Act.put, List.getElem_toArray, List.getElem_cons_zero, List.getElem_cons_succ, List.setIfInBounds_toArray, List.set_cons_zero, List.set_cons_succ]
            refine wpAnyH_take (i := 1) (v := ?_) rfl (by kernel_rfl) (by kernel_rfl) (by kernel_rfl) (fun _ _ _ h => h) (Or.inl ⟨by rfl, ?_⟩) hHeld ?_
            rotate_left
            · (intro w hSw; have z1 := hSw; go_simp <;> rfl)
            simp only [Act.put, List.getElem_toArray, List.getElem_cons_zero, List.getElem_cons_succ, List.setIfInBounds_toArray, List.set_cons_zero, List.set_cons_succ]
            refine wpAnyH_take (i := 2) (v := ?_) rfl (by kernel_rfl) (by kernel_rfl) (by kernel_rfl) (fun _ _ _ h => h) (Or.inl ⟨by rfl, ?_⟩) hHeld ?_
            rotate_left
            · (intro w hSw; have z1 := hSw; go_simp <;> rfl)
            simp only [Act.put, List.getElem_toArray, List.getElem_cons_zero, List.getElem_cons_succ, List.setIfInBounds_toArray, List.set_cons_zero, List.set_cons_succ]
            refine wpAnyH_take (i := 5) (v := ?_) rfl (by kernel_rfl) (by kernel_rfl) (by kernel_rfl) (fun _ _ _ h => h) (Or.inl ⟨by rfl, ?_⟩) hHeld ?_
            rotate_left
            · (intro w hSw; have z1 := hSw; go_simp <;> rfl)
            simp only [Act.put, List.getElem_toArray, List.getElem_cons_zero, List.getElem_cons_succ, List.setIfInBounds_toArray, List.set_cons_zero, List.set_cons_succ]
            refine wpAnyH_take (i := 6) (v := ?_) rfl (by kernel_rfl) (by kernel_rfl) (by kernel_rfl) (fun _ _ _ h => h) (Or.inl ⟨by rfl, ?_⟩) hHeld ?_
            rotate_left
            · (intro w hSw; have z1 := hSw; go_simp <;> rfl)
            simp only [Act.put, List.getElem_toArray, List.getElem_cons_zero, List.getElem_cons_succ, List.setIfInBounds_toArray, List.set_cons_zero, List.set_cons_succ]
            refine wpAnyH_take (i := 7) (v := ?_) rfl (by kernel_rfl) (by kernel_rfl) (by kernel_rfl) (fun _ _ _ h => h) (Or.inl ⟨by rfl, ?_⟩) hHeld ?_
            rotate_left
            · (intro w hSw; have z1 := hSw; go_simp <;> rfl)
            simp only [Act.put, List.getElem_toArray, List.getElem_cons_zero, List.getElem_cons_succ, List.setIfInBounds_toArray, List.set_cons_zero, List.set_cons_succ]
            refine wpAnyH_take (i := 8) (v := ?_) rfl (by kernel_rfl) (by kernel_rfl) (by kernel_rfl) (fun _ _ _ h => h) (Or.inl ⟨by rfl, ?_⟩) hHeld ?_
            rotate_left
            · (intro w hSw; have z1 := hSw; go_simp <;> rfl)
            simp only [Act.put, List.getElem_toArray, List.getElem_cons_zero, List.getElem_cons_succ, List.setIfInBounds_toArray, List.set_cons_zero, List.set_cons_succ]
            refine wpAnyH_ready (rs := [3]) (by kernel_rfl) (by simp) ?_
            refine AllReadyH.cons rfl (fun K' hK' => ?_) AllReadyH.nil
            go_simp
            refine hK'.out _ _ hxd (fun hHeld => ?_)
            clear hK' K'
            try simp only [Act.put, List.getElem_toArray, List.getElem_cons_zero, List.getElem_cons_succ, List.setIfInBounds_toArray, List.set_cons_zero, List.set_cons_succ]
            refine wpAnyH_ready (rs := [4]) (by kernel_rfl) (by simp) ?_
            refine AllReadyH.cons rfl (fun K' hK' => ?_) AllReadyH.nil
            go_simp
            refine (copybytes_any HId.out (by omega)).mono ?_
            rintro e w3 ⟨C3, c3, rfl, hSp3, hb3⟩
            dsimp only
            have hx3 := cell_below hb3 _ _ hxd
            refine hK'.out _ _ hx3 (fun hHeld => ?_)
            clear hK' K'
            try simp only [Act.put, List.getElem_toArray, List.getElem_cons_zero, List.getElem_cons_succ, List.setIfInBounds_toArray, List.set_cons_zero, List.set_cons_succ]
            have hxl3 := HOK.out.1.len
            obtain ⟨C4, c4, w4, hap, hSp4, hb4⟩ := spare_append hSp3 hb3.size (HOK.out.1.below (hKd.bel.trans (hb3.mono hKd.bel.size))) (by omega)
            have hb34 := hb3.trans hb4
            have hx4 := cell_below hb34 _ _ hxd
            refine wpAnyH_ready (rs := [9]) (by kernel_rfl) (by simp) ?_
            refine AllReadyH.cons rfl (fun K' hK' => ?_) AllReadyH.nil
            refine step_run (by first | rfl | kernel_rfl) _ _ 26 rfl (R := fun v' w' => .slice C4 (nq + x.n) c4 = v' ∧ w4 = w') ⟨_, _, hap, rfl, rfl⟩ ?_
            rintro v' w' ⟨rfl, rfl⟩
            refine hK'.out _ _ hx4 (fun hHeld => ?_)
            clear hK' K'
            try simp only [Act.put, List.getElem_toArray, List.getElem_cons_zero, List.getElem_cons_succ, List.setIfInBounds_toArray, List.set_cons_zero, List.set_cons_succ]
            refine wpAnyH_ready (rs := [10]) (by kernel_rfl) (by simp) ?_
            refine AllReadyH.cons rfl (fun K' hK' => ?_) AllReadyH.nil
            go_simp
            refine hK'.out _ _ hx4 (fun hHeld => ?_)
            clear hK' K'
            try simp only [Act.put, List.getElem_toArray, List.getElem_cons_zero, List.getElem_cons_succ, List.setIfInBounds_toArray, List.set_cons_zero, List.set_cons_succ]
            have hK5 := hKd.store hb34 hSp4.is_ (fun ad e => by
              rcases hSp4.at_ with ⟨h0, _⟩ | ⟨g, h0, h1, h2, _⟩
              · rw [h0] at e; cases e
              · rw [h0] at e; injection e with e; subst e; exact ⟨h1, h2⟩) hK3
            have hx5 := cell_below hK5.bel _ _ HB0.out
            have hf5 := ((hKd.below hb34).frees K).1
            have hr5 := (hKd.below hb34).rowAt hK3
            obtain ⟨A9, n9, c9, hc9, -, -⟩ := hr5
            refine wpAnyH_ready (rs := [11]) (by kernel_rfl) (by simp) ?_
            refine AllReadyH.cons rfl (fun K' hK' => ?_) AllReadyH.nil
            go_simp
            refine hK'.out _ _ hx5 (fun hHeld => ?_)
            clear hK' K'
            try simp only [Act.put, List.getElem_toArray, List.getElem_cons_zero, List.getElem_cons_succ, List.setIfInBounds_toArray, List.set_cons_zero, List.set_cons_succ]
            refine wpAnyH_done (by kernel_rfl) ?_ _
            have hi5 := hK5.is_ hK3
            have hf6 := (hK5.frees K).2.2
            have HK6 := Lib.hid (hK5.setIs hK3 true)
            clear hHeld hbd hcd hxd hKd hzd hSp3 hb3 hx3 hSp4 hb4 hb34 hx4 hap hx5 hf5 hc9 hcq hIq hxc hfz hK5
            go_wp2_with fail
            go_meet
            exact ⟨_, _, HK6.out, HS3.out, HV2.out⟩
            -- C]
        case rest =>
        obtain ⟨v1, t1, hK3', hS3', hV3'⟩ := hcut
        have HK3 := Lib.hid hK3'
        have HS3 := Lib.hid hS3'
        have HV3 := Lib.hid hV3'
        clear hK3' hS3' hV3' HK2 HS2
        go_upto_region 19 with fail
        go_cut [102] from 90 to 102 (fun cv wx => ∃ (b : Bool) (s' : St), cv = .bool b ∧ KR w wx a bn ba bs bt s' v1 mk t1 ∧ ((b = false ∧ Sure s' v1 mk t1) ∨ (b = true ∧ Sure s' v1 (upd mk K (v1 K).length) t1)))
        case first =>
          -- [D
          have hnm := HK3.out.name hK3
          by_cases h3 : T / 9 % 3 = 0
          · have q3 : ((T : Int) / 9 % 3 == 0) = true := by rw [beq_iff_eq]; omega
            go_wp2_with fail
            refine (k_sync HK3.out HS3.out hK3 (nmS K) (nmS_list K) (nmS_size K)).mono ?_
            rintro e w2 ⟨er, s', rfl, hK2, hS2⟩
            go_wp2_with fail
            go_meet
            refine ⟨((er : Int) == 0), s', rfl, hK2, ?_⟩
            rcases hS2 with ⟨h0, h1⟩ | ⟨h0, h1⟩
            · exact .inl ⟨by rw [beq_eq_false_iff_ne]; omega, h1⟩
            · exact .inr ⟨by rw [h0]; rfl, h1⟩
          · have q3 : ((T : Int) / 9 % 3 == 0) = false := by rw [beq_eq_false_iff_ne]; omega
            go_wp2_with fail
            go_meet
            exact ⟨false, _, rfl, HK3.out, .inl ⟨rfl, HS3.out⟩⟩
          -- D]
        case rest =>
        obtain ⟨b, s3, rfl, hK4, hS4⟩ := hcut
        have HK4 := Lib.hid hK4
        have HS4 := Lib.hid hS4
        clear hK4 hS4 HK3 HS3
        go_upto_if 102 with fail
        go_cut [] from 103 to 108 (fun wx => ∃ mk' : Nat → Nat, KR w wx a bn ba bs bt s3 v1 mk' t1 ∧ Sure s3 v1 mk' t1)
        case first =>
          -- [E
          rcases HS4.out with ⟨rfl, hS2⟩ | ⟨rfl, hS2⟩
          · go_wp2_with fail
            go_meet
            exact ⟨mk, HK4.out, hS2⟩
          · obtain ⟨A9, n9, c9, hc9, hI9, -⟩ := HK4.out.rowAt hK3
            have hl9 := hI9.len
            have hf9 := (HK4.out.frees K).2.1
            have hm9 := HK4.out.mark hK3
            have HK5 := Lib.hid (HK4.out.setMark hK3 (v1 K).length)
            rw [hl9] at HK5 hS2
            clear hI9
            go_wp2_with fail
            go_meet
            exact ⟨_, HK5.out, hS2⟩
          -- E]
        case rest =>
        obtain ⟨mk1, hK5, hS5⟩ := hcut
        have HK5 := Lib.hid hK5
        have HS5 := Lib.hid hS5
        clear hK5 hS5 HK4 HS4
        go_upto_region 21 with fail
        go_cut [130] from 109 to 130 (fun cv wx => ∃ (b : Bool) (s' : St), cv = .bool b ∧ KR w wx a bn ba bs bt s' v1 mk1 t1 ∧ ((b = false ∧ Sure s' v1 mk1 t1) ∨ (b = true ∧ O ≠ K ∧ Sure s' (upd (upd v1 O (v1 K)) K []) (upd (upd mk1 O (mk1 K)) K 0) (upd (upd t1 O true) K false))))
        case first =>
          -- [F
          have hnK := HK5.out.name hK3
          have hnO := HK5.out.name hO3
          have o0 : (0 : Int) ≤ (O : Int) := Int.natCast_nonneg _
          have o1 : (O : Int) < 3 := by omega
          by_cases h4 : T / 27 % 4 = 0
          · have q4 : ((T : Int) / 27 % 4 == 0) = true := by rw [beq_iff_eq]; omega
            by_cases hOK : O = K
            · have q5 : ((O : Int) != (K : Int)) = false := by rw [hOK]; simp
              go_quiet (fail)
              go_wp2_with fail
              go_meet
              exact ⟨false, s3, rfl, HK5.out.below (below_drewN' (Below.refl _ _) _), .inl ⟨rfl, HS5.out⟩⟩
            · have q5 : ((O : Int) != (K : Int)) = true := by simp; omega
              go_wp2_with fail
              refine wp_region_held_drew (S := fun w' => w'.cell? ⟨bn, K, none⟩ = some (.string (nmS K)) ∧ w'.cell? ⟨bn, O, none⟩ = some (.string (nmS O))) (by kernel_rfl) ⟨hnK, hnO⟩ (fun hHeld => ?_)
              have hKd1 : KR w wc.drew a bn ba bs bt s3 v1 mk1 t1 := HK5.out.below (Below.refl _ wc).drew
              generalize wc.drew = wd at hHeld hKd1 ⊢
              refine wpAnyH_take (i := 0) (v := ?_) rfl (by kernel_rfl) (by kernel_rfl) (by kernel_rfl) (fun _ _ _ h => h) (Or.inl ⟨by rfl, ?_⟩) hHeld ?_
              rotate_left
              · (intro w hSw; obtain ⟨z0, z1⟩ := hSw; go_simp <;> rfl)
              simp only [Act.put, List.getElem_toArray, List.getElem_cons_zero, List.getElem_cons_succ, List.setIfInBounds_toArray, List.set_cons_zero, List.set_cons_succ]
              refine wpAnyH_take (i := 1) (v := .int .i64 ((T : Int) / 27)) rfl (by kernel_rfl) (by kernel_rfl) (by kernel_rfl) (fun _ _ _ h => h) (Or.inl ⟨by rfl, ?_⟩) hHeld ?_
              · (intro w hSw; obtain ⟨z0, z1⟩ := hSw; go_simp; rw [IntKind.wrap_i64]; omega)
              simp only [Act.put, List.getElem_toArray, List.getElem_cons_zero, List.getElem_cons_succ, List.setIfInBounds_toArray, List.set_cons_zero, List.set_cons_succ]
              refine wpAnyH_take (i := 2) (v := .int .i64 ((T : Int) / 27 % 4)) rfl (by kernel_rfl) (by kernel_rfl) (by kernel_rfl) (fun _ _ _ h => h) (Or.inl ⟨by rfl, ?_⟩) hHeld ?_
              · (intro w hSw; obtain ⟨z0, z1⟩ := hSw; go_simp; try rfl)
              simp only [Act.put, List.getElem_toArray, List.getElem_cons_zero, List.getElem_cons_succ, List.setIfInBounds_toArray, List.set_cons_zero, List.set_cons_succ]
              refine wpAnyH_take (i := 3) (v := .bool true) rfl (by kernel_rfl) (by kernel_rfl) (by kernel_rfl) (fun _ _ _ h => h) (Or.inl ⟨by rfl, ?_⟩) hHeld ?_
              · (intro w hSw; obtain ⟨z0, z1⟩ := hSw; go_simp; try rfl)
              simp only [Act.put, List.getElem_toArray, List.getElem_cons_zero, List.getElem_cons_succ, List.setIfInBounds_toArray, List.set_cons_zero, List.set_cons_succ]
              refine wpAnyH_take (i := 4) (v := ?_) rfl (by kernel_rfl) (by kernel_rfl) (by kernel_rfl) (fun _ _ _ h => h) (Or.inl ⟨by rfl, ?_⟩) hHeld ?_
              rotate_left
              · (intro w hSw; obtain ⟨z0, z1⟩ := hSw; go_simp <;> rfl)
              simp only [Act.put, List.getElem_toArray, List.getElem_cons_zero, List.getElem_cons_succ, List.setIfInBounds_toArray, List.set_cons_zero, List.set_cons_succ]
              refine wpAnyH_take (i := 5) (v := ?_) rfl (by kernel_rfl) (by kernel_rfl) (by kernel_rfl) (fun _ _ _ h => h) (Or.inl ⟨by rfl, ?_⟩) hHeld ?_
              rotate_left
              · (intro w hSw; obtain ⟨z0, z1⟩ := hSw; go_simp <;> rfl)
              simp only [Act.put, List.getElem_toArray, List.getElem_cons_zero, List.getElem_cons_succ, List.setIfInBounds_toArray, List.set_cons_zero, List.set_cons_succ]
              refine wpAnyH_take (i := 6) (v := ?_) rfl (by kernel_rfl) (by kernel_rfl) (by kernel_rfl) (fun _ _ _ h => h) (Or.inl ⟨by rfl, ?_⟩) hHeld ?_
              rotate_left
              · (intro w hSw; obtain ⟨z0, z1⟩ := hSw; go_simp <;> rfl)
              simp only [Act.put, List.getElem_toArray, List.getElem_cons_zero, List.getElem_cons_succ, List.setIfInBounds_toArray, List.set_cons_zero, List.set_cons_succ]
              refine wpAnyH_take (i := 7) (v := ?_) rfl (by kernel_rfl) (by kernel_rfl) (by kernel_rfl) (fun _ _ _ h => h) (Or.inl ⟨by rfl, ?_⟩) hHeld ?_
              rotate_left
              · (intro w hSw; obtain ⟨z0, z1⟩ := hSw; go_simp <;> rfl)
              simp only [Act.put, List.getElem_toArray, List.getElem_cons_zero, List.getElem_cons_succ, List.setIfInBounds_toArray, List.set_cons_zero, List.set_cons_succ]
              refine wpAnyH_take (i := 8) (v := ?_) rfl (by kernel_rfl) (by kernel_rfl) (by kernel_rfl) (fun _ _ _ h => h) (Or.inl ⟨by rfl, ?_⟩) hHeld ?_
              rotate_left
              · (intro w hSw; obtain ⟨z0, z1⟩ := hSw; go_simp <;> rfl)
              simp only [Act.put, List.getElem_toArray, List.getElem_cons_zero, List.getElem_cons_succ, List.setIfInBounds_toArray, List.set_cons_zero, List.set_cons_succ]
              refine wpAnyH_take (i := 9) (v := ?_) rfl (by kernel_rfl) (by kernel_rfl) (by kernel_rfl) (fun _ _ _ h => h) (Or.inl ⟨by rfl, ?_⟩) hHeld ?_
              rotate_left
              · (intro w hSw; obtain ⟨z0, z1⟩ := hSw; go_simp <;> rfl)
              simp only [Act.put, List.getElem_toArray, List.getElem_cons_zero, List.getElem_cons_succ, List.setIfInBounds_toArray, List.set_cons_zero, List.set_cons_succ]
              refine wpAnyH_take (i := 10) (v := ?_) rfl (by kernel_rfl) (by kernel_rfl) (by kernel_rfl) (fun _ _ _ h => h) (Or.inl ⟨by rfl, ?_⟩) hHeld ?_
              rotate_left
              · (intro w hSw; obtain ⟨z0, z1⟩ := hSw; go_simp <;> rfl)
              simp only [Act.put, List.getElem_toArray, List.getElem_cons_zero, List.getElem_cons_succ, List.setIfInBounds_toArray, List.set_cons_zero, List.set_cons_succ]
              refine wpAnyH_take (i := 11) (v := ?_) rfl (by kernel_rfl) (by kernel_rfl) (by kernel_rfl) (fun _ _ _ h => h) (Or.inl ⟨by rfl, ?_⟩) hHeld ?_
              rotate_left
              · (intro w hSw; obtain ⟨z0, z1⟩ := hSw; go_simp <;> rfl)
              simp only [Act.put, List.getElem_toArray, List.getElem_cons_zero, List.getElem_cons_succ, List.setIfInBounds_toArray, List.set_cons_zero, List.set_cons_succ]
              refine wpAnyH_take (i := 12) (v := ?_) rfl (by kernel_rfl) (by kernel_rfl) (by kernel_rfl) (fun _ _ _ h => h) (Or.inl ⟨by rfl, ?_⟩) hHeld ?_
              rotate_left
              · (intro w hSw; obtain ⟨z0, z1⟩ := hSw; go_simp <;> rfl)
              simp only [Act.put, List.getElem_toArray, List.getElem_cons_zero, List.getElem_cons_succ, List.setIfInBounds_toArray, List.set_cons_zero, List.set_cons_succ]
              refine wpAnyH_take (i := 13) (v := ?_) rfl (by kernel_rfl) (by kernel_rfl) (by kernel_rfl) (fun _ _ _ h => h) (Or.inl ⟨by rfl, ?_⟩) hHeld ?_
              rotate_left
              · (intro w hSw; obtain ⟨z0, z1⟩ := hSw; go_simp <;> rfl)
              simp only [Act.put, List.getElem_toArray, List.getElem_cons_zero, List.getElem_cons_succ, List.setIfInBounds_toArray, List.set_cons_zero, List.set_cons_succ]
              refine wpAnyH_take (i := 14) (v := ?_) rfl (by kernel_rfl) (by kernel_rfl) (by kernel_rfl) (fun _ _ _ h => h) (Or.inl ⟨by rfl, ?_⟩) hHeld ?_
              rotate_left
              · (intro w hSw; obtain ⟨z0, z1⟩ := hSw; go_simp <;> rfl)
              simp only [Act.put, List.getElem_toArray, List.getElem_cons_zero, List.getElem_cons_succ, List.setIfInBounds_toArray, List.set_cons_zero, List.set_cons_succ]
              refine wpAnyH_take (i := 15) (v := ?_) rfl (by kernel_rfl) (by kernel_rfl) (by kernel_rfl) (fun _ _ _ h => h) (Or.inl ⟨by rfl, ?_⟩) hHeld ?_
              rotate_left
              · (intro w hSw; obtain ⟨z0, z1⟩ := hSw; go_simp <;> rfl)
              simp only [Act.put, List.getElem_toArray, List.getElem_cons_zero, List.getElem_cons_succ, List.setIfInBounds_toArray, List.set_cons_zero, List.set_cons_succ]
              refine wpAnyH_take (i := 16) (v := ?_) rfl (by kernel_rfl) (by kernel_rfl) (by kernel_rfl) (fun _ _ _ h => h) (Or.inl ⟨by rfl, ?_⟩) hHeld ?_
              rotate_left
              · (intro w hSw; obtain ⟨z0, z1⟩ := hSw; go_simp <;> rfl)
              simp only [Act.put, List.getElem_toArray, List.getElem_cons_zero, List.getElem_cons_succ, List.setIfInBounds_toArray, List.set_cons_zero, List.set_cons_succ]
              refine wpAnyH_take (i := 17) (v := ?_) rfl (by kernel_rfl) (by kernel_rfl) (by kernel_rfl) (fun _ _ _ h => h) (Or.inl ⟨by rfl, ?_⟩) hHeld ?_
              rotate_left
              · (intro w hSw; obtain ⟨z0, z1⟩ := hSw; go_simp <;> rfl)
              simp only [Act.put, List.getElem_toArray, List.getElem_cons_zero, List.getElem_cons_succ, List.setIfInBounds_toArray, List.set_cons_zero, List.set_cons_succ]
              refine wpAnyH_take (i := 18) (v := ?_) rfl (by kernel_rfl) (by kernel_rfl) (by kernel_rfl) (fun _ _ _ h => h) (Or.inl ⟨by rfl, ?_⟩) hHeld ?_
              rotate_left
              · (intro w hSw; obtain ⟨z0, z1⟩ := hSw; go_simp <;> rfl)
              simp only [Act.put, List.getElem_toArray, List.getElem_cons_zero, List.getElem_cons_succ, List.setIfInBounds_toArray, List.set_cons_zero, List.set_cons_succ]
              refine wpAnyH_ready (rs := [19]) (by kernel_rfl) (by simp) ?_
              refine AllReadyH.cons rfl (fun K' hK' => ?_) AllReadyH.nil
              go_simp
              refine (k_rename hKd1 HS5.out hK3 hO3 hOK (nmS K) (nmS O) (nmS_list K) (nmS_size K) (nmS_list O) (nmS_size O)).mono ?_
              rintro e w2 ⟨er, s', rfl, hK2, hS2⟩
              dsimp only
              refine hK'.out _ _ ⟨hK2.name hK3, hK2.name hO3⟩ (fun hHeld => ?_)
              clear hK' K'
              try simp only [Act.put, List.getElem_toArray, List.getElem_cons_zero, List.getElem_cons_succ, List.setIfInBounds_toArray, List.set_cons_zero, List.set_cons_succ]
              refine wpAnyH_ready (rs := [20]) (by kernel_rfl) (by simp) ?_
              refine AllReadyH.cons rfl (fun K' hK' => ?_) AllReadyH.nil
              go_simp
              refine hK'.out _ _ ⟨hK2.name hK3, hK2.name hO3⟩ (fun hHeld => ?_)
              clear hK' K'
              try simp only [Act.put, List.getElem_toArray, List.getElem_cons_zero, List.getElem_cons_succ, List.setIfInBounds_toArray, List.set_cons_zero, List.set_cons_succ]
              refine wpAnyH_ready (rs := [21]) (by kernel_rfl) (by simp) ?_
              refine AllReadyH.cons rfl (fun K' hK' => ?_) AllReadyH.nil
              go_simp
              refine hK'.out _ _ ⟨hK2.name hK3, hK2.name hO3⟩ (fun hHeld => ?_)
              clear hK' K'
              try simp only [Act.put, List.getElem_toArray, List.getElem_cons_zero, List.getElem_cons_succ, List.setIfInBounds_toArray, List.set_cons_zero, List.set_cons_succ]
              refine wpAnyH_done (by kernel_rfl) ?_ _
              clear hHeld hnK hnO
              go_wp2_with fail
              go_meet
              refine ⟨((er : Int) == 0), s', rfl, hK2, ?_⟩
              rcases hS2 with ⟨h0, h1⟩ | ⟨h0, h1⟩
              · exact .inl ⟨by rw [beq_eq_false_iff_ne]; omega, h1⟩
              · exact .inr ⟨by rw [h0]; rfl, hOK, h1⟩
          · have q4 : ((T : Int) / 27 % 4 == 0) = false := by rw [beq_eq_false_iff_ne]; omega
            go_quiet (fail)
            go_wp2_with fail
            go_meet
            exact ⟨false, s3, rfl, HK5.out.below (below_drewN' (Below.refl _ _) _), .inl ⟨rfl, HS5.out⟩⟩
          -- F]
        case rest =>
        obtain ⟨b, s4, rfl, hK6, hS6⟩ := hcut
        have HK6 := Lib.hid hK6
        have HS6 := Lib.hid hS6
        clear hK6 hS6 HK5 HS5
        go_upto_if 130 with fail
        go_cut [] from 131 to 148 (fun wx => ∃ (v' : Nat → List UInt8) (mk' : Nat → Nat) (t' : Nat → Bool), KR w wx a bn ba bs bt s4 v' mk' t' ∧ Sure s4 v' mk' t' ∧ ∀ k, k < 3 → (v' k).length ≤ 100 * (j + 1))
        case first =>
          -- [G
          rcases HS6.out with ⟨rfl, hS2⟩ | ⟨rfl, hOK, hS2⟩
          · go_wp2_with fail
            go_meet
            exact ⟨v1, mk1, t1, HK6.out, hS2, HV3.out⟩
          · have HS7 := Lib.hid hS2
            have hV7 : Hid (∀ k, k < 3 → (upd (upd v1 O (v1 K)) K [] k).length ≤ 100 * (j + 1)) := fun k hk => by
              by_cases h1 : k = K
              · subst h1; rw [upd_self]; exact Nat.zero_le _
              · rw [upd_ne _ _ h1]
                by_cases h2 : k = O
                · subst h2; rw [upd_self]; exact HV3.out K hK3
                · rw [upd_ne _ _ h2]; exact HV3.out k hk
            have o0 : (0 : Int) ≤ (O : Int) := Int.natCast_nonneg _
            have o1 : (O : Int) < 3 := by omega
            have hKO : K ≠ O := fun e => hOK e.symm
            have hKd : KR w wc.drew a bn ba bs bt s4 v1 mk1 t1 := HK6.out.below (Below.refl _ wc).drew
            clear hS2
            go_wp2_with fail
            obtain ⟨A9, n9, c9, hc9, -, hmv⟩ := hKd.rowAt hK3
            have hm9 := hKd.mark hK3
            refine wp_region_held_drew (S := fun w' => w'.cell? ⟨ba, K, none⟩ = some (.slice A9 n9 c9) ∧ w'.cell? ⟨bs, K, none⟩ = some (.int .i64 (mk1 K : Int))) (by kernel_rfl) ⟨hc9, hm9⟩ (fun hHeld => ?_)
            generalize wc.drew = wd at hHeld hKd hc9 hmv hm9 ⊢
            refine wpAnyH_take (i := 0) (v := ?_) rfl (by kernel_rfl) (by kernel_rfl) (by kernel_rfl) (fun _ _ _ h => h) (Or.inl ⟨by rfl, ?_⟩) hHeld ?_
            rotate_left
            · (intro w hSw; obtain ⟨z0, z1⟩ := hSw; go_simp <;> rfl)
            simp only [Act.put, List.getElem_toArray, List.getElem_cons_zero, List.getElem_cons_succ, List.setIfInBounds_toArray, List.set_cons_zero, List.set_cons_succ]
            refine wpAnyH_take (i := 1) (v := ?_) rfl (by kernel_rfl) (by kernel_rfl) (by kernel_rfl) (fun _ _ _ h => h) (Or.inl ⟨by rfl, ?_⟩) hHeld ?_
            rotate_left
            · (intro w hSw; obtain ⟨z0, z1⟩ := hSw; go_simp <;> rfl)
            simp only [Act.put, List.getElem_toArray, List.getElem_cons_zero, List.getElem_cons_succ, List.setIfInBounds_toArray, List.set_cons_zero, List.set_cons_succ]
            refine wpAnyH_take (i := 2) (v := ?_) rfl (by kernel_rfl) (by kernel_rfl) (by kernel_rfl) (fun _ _ _ h => h) (Or.inl ⟨by rfl, ?_⟩) hHeld ?_
            rotate_left
            · (intro w hSw; obtain ⟨z0, z1⟩ := hSw; go_simp <;> rfl)
            simp only [Act.put, List.getElem_toArray, List.getElem_cons_zero, List.getElem_cons_succ, List.setIfInBounds_toArray, List.set_cons_zero, List.set_cons_succ]
            refine wpAnyH_take (i := 3) (v := ?_) rfl (by kernel_rfl) (by kernel_rfl) (by kernel_rfl) (fun _ _ _ h => h) (Or.inl ⟨by rfl, ?_⟩) hHeld ?_
            rotate_left
            · (intro w hSw; obtain ⟨z0, z1⟩ := hSw; go_simp <;> rfl)
            simp only [Act.put, List.getElem_toArray, List.getElem_cons_zero, List.getElem_cons_succ, List.setIfInBounds_toArray, List.set_cons_zero, List.set_cons_succ]
            refine wpAnyH_take (i := 4) (v := ?_) rfl (by kernel_rfl) (by kernel_rfl) (by kernel_rfl) (fun _ _ _ h => h) (Or.inl ⟨by rfl, ?_⟩) hHeld ?_
            rotate_left
            · (intro w hSw; obtain ⟨z0, z1⟩ := hSw; go_simp <;> rfl)
            simp only [Act.put, List.getElem_toArray, List.getElem_cons_zero, List.getElem_cons_succ, List.setIfInBounds_toArray, List.set_cons_zero, List.set_cons_succ]
            refine wpAnyH_take (i := 5) (v := ?_) rfl (by kernel_rfl) (by kernel_rfl) (by kernel_rfl) (fun _ _ _ h => h) (Or.inl ⟨by rfl, ?_⟩) hHeld ?_
            rotate_left
            · (intro w hSw; obtain ⟨z0, z1⟩ := hSw; go_simp <;> rfl)
            simp only [Act.put, List.getElem_toArray, List.getElem_cons_zero, List.getElem_cons_succ, List.setIfInBounds_toArray, List.set_cons_zero, List.set_cons_succ]
            refine wpAnyH_take (i := 6) (v := ?_) rfl (by kernel_rfl) (by kernel_rfl) (by kernel_rfl) (fun _ _ _ h => h) (Or.inl ⟨by rfl, ?_⟩) hHeld ?_
            rotate_left
            · (intro w hSw; obtain ⟨z0, z1⟩ := hSw; go_simp <;> rfl)
            simp only [Act.put, List.getElem_toArray, List.getElem_cons_zero, List.getElem_cons_succ, List.setIfInBounds_toArray, List.set_cons_zero, List.set_cons_succ]
            refine wpAnyH_take (i := 7) (v := ?_) rfl (by kernel_rfl) (by kernel_rfl) (by kernel_rfl) (fun _ _ _ h => h) (Or.inl ⟨by rfl, ?_⟩) hHeld ?_
            rotate_left
            · (intro w hSw; obtain ⟨z0, z1⟩ := hSw; go_simp <;> rfl)
            simp only [Act.put, List.getElem_toArray, List.getElem_cons_zero, List.getElem_cons_succ, List.setIfInBounds_toArray, List.set_cons_zero, List.set_cons_succ]
            refine wpAnyH_take (i := 8) (v := ?_) rfl (by kernel_rfl) (by kernel_rfl) (by kernel_rfl) (fun _ _ _ h => h) (Or.inl ⟨by rfl, ?_⟩) hHeld ?_
            rotate_left
            · (intro w hSw; obtain ⟨z0, z1⟩ := hSw; go_simp <;> rfl)
            simp only [Act.put, List.getElem_toArray, List.getElem_cons_zero, List.getElem_cons_succ, List.setIfInBounds_toArray, List.set_cons_zero, List.set_cons_succ]
            refine wpAnyH_take (i := 9) (v := ?_) rfl (by kernel_rfl) (by kernel_rfl) (by kernel_rfl) (fun _ _ _ h => h) (Or.inl ⟨by rfl, ?_⟩) hHeld ?_
            rotate_left
            · (intro w hSw; obtain ⟨z0, z1⟩ := hSw; go_simp <;> rfl)
            simp only [Act.put, List.getElem_toArray, List.getElem_cons_zero, List.getElem_cons_succ, List.setIfInBounds_toArray, List.set_cons_zero, List.set_cons_succ]
            have hKa := hmv O hO3
            have hfO := (hKd.frees O).1
            obtain ⟨Ao, no, co, hco, -, -⟩ := hKd.rowAt hO3
            have ha9 := hKd.other hOK (.slice A9 n9 c9) hc9
            have hma := hKa.mark hK3
            refine wpAnyH_ready (rs := [10]) (by kernel_rfl) (by simp) ?_
            refine AllReadyH.cons rfl (fun K' hK' => ?_) AllReadyH.nil
            go_simp
            refine hK'.out _ _ ⟨ha9, hma⟩ (fun hHeld => ?_)
            clear hK' K'
            try simp only [Act.put, List.getElem_toArray, List.getElem_cons_zero, List.getElem_cons_succ, List.setIfInBounds_toArray, List.set_cons_zero, List.set_cons_succ]
            generalize wd.setCell ⟨ba, O, none⟩ (.slice A9 n9 c9) = wa at hHeld hKa ha9 hma ⊢
            refine wpAnyH_take (i := 11) (v := ?_) rfl (by kernel_rfl) (by kernel_rfl) (by kernel_rfl) (fun _ _ _ h => h) (Or.inl ⟨by rfl, ?_⟩) hHeld ?_
            rotate_left
            · (intro w hSw; obtain ⟨z0, z1⟩ := hSw; go_simp <;> rfl)
            simp only [Act.put, List.getElem_toArray, List.getElem_cons_zero, List.getElem_cons_succ, List.setIfInBounds_toArray, List.set_cons_zero, List.set_cons_succ]
            have hKb := hKa.setMark hO3 (mk1 K)
            have hfb := (hKa.frees O).2.1
            have hmo := hKa.mark hO3
            have hb9 := (hKa.far (o := O) (.int .i64 (mk1 K : Int)) ha9).1
            have hmb := hKb.mark hK3
            rw [upd_ne _ _ hKO] at hmb
            refine wpAnyH_ready (rs := [12]) (by kernel_rfl) (by simp) ?_
            refine AllReadyH.cons rfl (fun K' hK' => ?_) AllReadyH.nil
            go_simp
            refine hK'.out _ _ ⟨hb9, hmb⟩ (fun hHeld => ?_)
            clear hK' K'
            try simp only [Act.put, List.getElem_toArray, List.getElem_cons_zero, List.getElem_cons_succ, List.setIfInBounds_toArray, List.set_cons_zero, List.set_cons_succ]
            generalize wa.setCell ⟨bs, O, none⟩ (.int .i64 (mk1 K : Int)) = wb at hHeld hKb hb9 hmb ⊢
            refine wpAnyH_take (i := 13) (v := ?_) rfl (by kernel_rfl) (by kernel_rfl) (by kernel_rfl) (fun _ _ _ h => h) (Or.inl ⟨by rfl, ?_⟩) hHeld ?_
            rotate_left
            · (intro w hSw; obtain ⟨z0, z1⟩ := hSw; go_simp <;> rfl)
            simp only [Act.put, List.getElem_toArray, List.getElem_cons_zero, List.getElem_cons_succ, List.setIfInBounds_toArray, List.set_cons_zero, List.set_cons_succ]
            have hKc := hKb.setIs hO3 true
            have hfc := (hKb.frees O).2.2
            have hio := hKb.is_ hO3
            have hc9' := (hKb.far (o := O) (.bool true) hb9).2
            have hmc := hKc.mark hK3
            rw [upd_ne _ _ hKO] at hmc
            refine wpAnyH_ready (rs := [14]) (by kernel_rfl) (by simp) ?_
            refine AllReadyH.cons rfl (fun K' hK' => ?_) AllReadyH.nil
            go_simp
            refine hK'.out _ _ ⟨hc9', hmc⟩ (fun hHeld => ?_)
            clear hK' K'
            try simp only [Act.put, List.getElem_toArray, List.getElem_cons_zero, List.getElem_cons_succ, List.setIfInBounds_toArray, List.set_cons_zero, List.set_cons_succ]
            refine wpAnyH_done (by kernel_rfl) ?_ _
            generalize wb.setCell ⟨bt, O, none⟩ (.bool true) = wf at hHeld hKc hc9' hmc ⊢
            have hKg := hKc.empty hK3
            have hfg := (hKc.frees K).1
            have hKh : KR w ((wf.setCell ⟨ba, K, none⟩ (.slice none 0 0)).setCell ⟨bs, K, none⟩ (.int .i64 0)) a bn ba bs bt s4 _ _ _ := hKg.setMark hK3 0
            have hfh := (hKg.frees K).2.1
            have hmh := hKg.mark hK3
            have hKi := hKh.setIs hK3 false
            have hfi := (hKh.frees K).2.2
            have hii := hKh.is_ hK3
            have HKi := Lib.hid hKi
            clear hHeld hKa hKb hKc hKd hmv ha9 hma hb9 hmb hmc hfO hco hfb hmo hfc hio hKg hKh hKi hm9 hc9
            go_wp2_with fail
            go_meet
            exact ⟨_, _, _, HKi.out, HS7.out, hV7.out⟩
          -- G]
        case rest =>
        obtain ⟨v2, mk2, t2, hK7, hS7, hV7⟩ := hcut
        have HK7 := Lib.hid hK7
        have HS7 := Lib.hid hS7
        have HV7 := Lib.hid hV7
        clear hK7 hS7 hV7 HK6 HS6
        rename_i hnext wcx
        refine hnext _ _ (keeps_tail w wc a bn ba bs bt s4 v2 mk2 t2 j T HK7 HS7 HV7 hT9 _ _ _ _ _ _ _ _ _ _ _ _ _ _ _ _ _ _ _ _ _ _ _ _ _ _ _ _ _ _ _ _ _ _ _ _ _ _ _ _ _ _ _ _ _ _ _ _ _ _ _ _ _ _ _ _ _ _ _ _ _ _ _ _ _ _ _ _ _ _ _ _ _ _ _ _ _ _ _ _ _ _ _ _ _ _ _ _ _ _ _ _ _ _ _ _ _ _ _ _ _ _ _ _ _ _ _ _ _ _ _ _ _ _ _ _ _ _ _ _ _ _ _ _ _ _ _ _ _ _ _ _ _ _ _ _ _ _ _ _ _ _ _ _ _ _ _ _ _ _ _ _ _ _ _ _ _ _ _ _ _ _ _ _ _ _ _ _ _ _ _ _ _ _ _ _ _ _ _ _ _ _ _ _ _ _ _ _ _ _ _ _ _ _ _ _ _ _ _ _ _ _ _ _ _ _ _ _ _ _ _ _ _ _ _ _ _ _ _ _ _ _ _ _ _ _ _ _ _ _ _ _ ?_)
        intro s5 v5 mk5 t5 w5 _ _ _ _ _ _ _ _ _ _ _ _ _ _ _ _ _ _ _ _ _ _ _ _ _ _ _ _ _ _ _ _ _ _ _ _ _ _ _ _ _ _ _ _ _ _ _ _ _ _ _ _ _ _ _ _ _ _ _ _ _ _ _ _ _ _ _ _ _ _ _ _ _ _ _ _ _ _ _ _ _ _ _ _ _ _ _ _ _ _ hK9 hS9 hV9
        have HK9 := Lib.hid hK9
        have HS9 := Lib.hid hS9
        have HV9 := Lib.hid hV9
        clear hK9 hS9 hV9 HK7 HS7 HV7
        go_wp2_with fail
        go_roundw
        case rel => exact ⟨j + 1, s5, v5, mk5, t5, by go_num, by omega, HK9.out, HS9.out, HV9⟩
        case measure => simp [intOf]; omega
    · have HK := Lib.hid hK
      clear hK
      have hend : ∀ w' : World, Below wr.heap.size wr w' → Below w.heap.size w w' := fun w' hb => hbw.trans (hb.mono hbw.size)
      by_cases h1 : j < n
      · have e1 : decide ((j : Int) < (n : Int)) = true := decide_eq_true (by omega)
        by_cases h2 : j < 40
        · have e2 : decide ((j : Int) < 40) = true := decide_eq_true (by omega)
          have e3 : decide ((j : Int) < (m : Int)) = false := decide_eq_false (by have h3 : ¬ j < m := fun h => hjn ⟨h1, h2, h⟩; omega)
          go_wp2_with fail
          refine (awake2_any wr).mono ?_
          rintro e w9 ⟨rfl, hb9⟩
          go_wp2_with fail
          go_ret
          exact ⟨rfl, hend _ hb9⟩
        · have e2 : decide ((j : Int) < 40) = false := decide_eq_false (by omega)
          go_wp2_with fail
          refine (awake2_any wr).mono ?_
          rintro e w9 ⟨rfl, hb9⟩
          go_wp2_with fail
          go_ret
          exact ⟨rfl, hend _ hb9⟩
      · have e1 : decide ((j : Int) < (n : Int)) = false := decide_eq_false (by omega)
        go_wp2_with fail
        refine (awake2_any wr).mono ?_
        rintro e w9 ⟨rfl, hb9⟩
        go_wp2_with fail
        go_ret
        exact ⟨rfl, hend _ hb9⟩
end Go.Proofs.Ytebpdlggkncliaa
