/-
  Two disks behind the same calls; DiskRefused: what is refused changes nothing, and takes nothing from an arm.
-/
import Derived.Test.YtdcflgblaljdeaaDkTwo
set_option linter.unusedVariables false
set_option linter.unusedSimpArgs false
namespace Go.Proofs.Ytdcflgblaljdeaa
open Go.RowKit Go.Maps

theorem two_new {w0 w w' : World} {F : Nat → Prop} {a : Nat} {s : St} (hD : Dk w F a s) (hf : ∀ b, F b → w0.heap.size ≤ b) (h0 : Below w0.heap.size w0 w) {G : Nat → Prop} {b : Nat} {t : St} (hG : Dk w' G b t) (hg : ∀ x, G x → w.heap.size ≤ x) (hb : Below w.heap.size w w') : Two w0 w' a s b t F G :=
  ⟨hD.below hb, hG, fun x f g => by have := hD.2.1 x f; have := hg x g; omega, hf, fun x g => Nat.le_trans h0.size (hg x g), bst h0 hb⟩
theorem two_does {w0 w : World} {a : Nat} {s : St} {b : Nat} {t : St} {F G : Nat → Prop} (h : Two w0 w a s b t F G) (x : OpC) (hx : x.ok w0) {s' : St} {er : Int} (hs : (s.does x.o).1 = s') (he : ((s.does x.o).2 : Int) = er) :
    Calls Try.prog 47 #[.pointer (some ⟨a, 0, none⟩), .agg #[.int .i64 x.o.kind, .int .i64 x.o.n, .string x.o.name, .string x.o.to, .slice x.B x.nB x.cB, .slice x.K x.nK x.cK]] w fun e w' =>
      e = .returned (.int .i64 er) ∧ ∃ F', Two w0 w' a s' b t F' G := by
  refine (does_any h.one x (hx.below h.bel) fun ad hA hne hF => ?_).mono ?_
  · have := h.new1 _ hF
    have := hx.old ad hA hne
    omega
  · rintro e w' ⟨rfl, ht⟩
    rw [hs] at ht
    rw [he]
    exact ⟨rfl, h.turned ht⟩
theorem two_does2 {w0 w : World} {a : Nat} {s : St} {b : Nat} {t : St} {F G : Nat → Prop} (h : Two w0 w a s b t F G) (x : OpC) (hx : x.ok w0) {s' : St} {er : Int} (hs : (t.does x.o).1 = s') (he : ((t.does x.o).2 : Int) = er) :
    Calls Try.prog 47 #[.pointer (some ⟨b, 0, none⟩), .agg #[.int .i64 x.o.kind, .int .i64 x.o.n, .string x.o.name, .string x.o.to, .slice x.B x.nB x.cB, .slice x.K x.nK x.cK]] w fun e w' =>
      e = .returned (.int .i64 er) ∧ ∃ G', Two w0 w' a s b s' F G' := by
  refine (two_does h.swap x hx hs he).mono ?_
  rintro e w' ⟨rfl, G', h'⟩
  exact ⟨rfl, G', h'.swap⟩
/-- what is refused changes nothing -/
theorem op_refused {s : St} (f : List (Nm × Fc) → List (Nm × Fc)) : (s.op f).2 = 0 ∨ (s.op f).2 = 15 := by
  unfold St.op
  split <;> simp
theorem does_refused {s : St} {o : OpV} (h0 : (s.does o).2 ≠ 0) (h15 : (s.does o).2 ≠ 15) : (s.does o).1 = s := by
  have hop := fun f => op_refused (s := s) f
  unfold St.does at h0 h15 ⊢
  split at h0
  · rename_i hk
    rw [if_pos hk] at h15 ⊢
    unfold St.append at h0 h15 ⊢
    split
    · rfl
    split
    · rfl
    split
    · rfl
    · rename_i q1 q2 q3
      rw [if_neg q1, if_neg q2, if_neg q3] at h0 h15
      exact (hop _).elim (fun e => absurd e h0) fun e => absurd e h15
  rename_i k1
  rw [if_neg k1] at h15 ⊢
  split at h0
  · rename_i hk
    rw [if_pos hk] at h15 ⊢
    unfold St.sync at h0 h15 ⊢
    split
    · rfl
    rename_i q1
    rw [if_neg q1] at h0 h15
    cases hg : aget o.name.data.toList s.fs with
    | none => rfl
    | some c =>
      rw [hg] at h0 h15
      dsimp only at h0 h15
      exact (hop _).elim (fun e => absurd e h0) fun e => absurd e h15
  rename_i k2
  rw [if_neg k2] at h15 ⊢
  split at h0
  · rename_i hk
    rw [if_pos hk] at h15 ⊢
    unfold St.rename at h0 h15 ⊢
    split
    · rfl
    rename_i q1
    rw [if_neg q1] at h0 h15
    cases hg : aget o.name.data.toList s.fs with
    | none => rfl
    | some c =>
      rw [hg] at h0 h15
      dsimp only at h0 h15 ⊢
      split
      · rfl
      rename_i q2
      rw [if_neg q2] at h0 h15
      exact (hop _).elim (fun e => absurd e h0) fun e => absurd e h15
  rename_i k3
  rw [if_neg k3] at h15 ⊢
  split at h0
  · rename_i hk
    rw [if_pos hk] at h15 ⊢
    unfold St.remove at h0 h15 ⊢
    split
    · rfl
    rename_i q1
    rw [if_neg q1] at h0 h15
    cases hg : aget o.name.data.toList s.fs with
    | none => rfl
    | some c =>
      rw [hg] at h0 h15
      dsimp only at h0 h15
      exact (hop _).elim (fun e => absurd e h0) fun e => absurd e h15
  rename_i k4
  rw [if_neg k4] at h15 ⊢
  split at h0
  · rename_i hk
    rw [if_pos hk] at h15 ⊢
    unfold St.cut at h0 h15 ⊢
    split
    · rfl
    rename_i q1
    rw [if_neg q1] at h0 h15
    cases hg : aget o.name.data.toList s.fs with
    | none => rfl
    | some c =>
      rw [hg] at h0 h15
      dsimp only at h0 h15 ⊢
      split
      · rfl
      rename_i q2
      rw [if_neg q2] at h0 h15
      exact (hop _).elim (fun e => absurd e h0) fun e => absurd e h15
  rename_i k5
  rw [if_neg k5] at h15 ⊢
  split at h0
  · exact absurd rfl h0
  rename_i k6
  split at h0
  · exact absurd rfl h0
  · exact absurd rfl h0

set_option maxRecDepth 100000 in
set_option maxHeartbeats 2000000 in
theorem played_any (w : World) (k : Nat) (hk : k ≤ 16777216) (A : Option Addr) (n c : Nat) (xs : List OpC) (h : IsL 6 (fun cs x => cs = x.cells ∧ x.ok w) w A n c xs) :
    Calls Try.prog 48 #[.int .i64 (k : Int), .slice A n c] w fun e w' => ∃ a b, e = .returned (.tuple #[.pointer (some ⟨a, 0, none⟩), .pointer (some ⟨b, 0, none⟩)]) ∧ ∃ s F G, Two w w' a s b s F G := by
  have hm := h.max
  have hcap := h.cap
  unfold maxLen at hm
  go_enter Try.func48, Try.ntmps48
  go_wp2_with fail
  refine (new_any k w hk).mono ?_
  rintro e w1 ⟨a, F0, rfl, hD0, hf0, hb0⟩
  go_wp2_with fail
  refine (new_any k w1 hk).mono ?_
  rintro e w1' ⟨b, G0, rfl, hG0, hg0, hb1⟩
  have hT0 := two_new hD0 hf0 hb0 hG0 hg0 hb1
  clear hD0 hf0 hb0 hG0 hg0 hb1
  go_wp2_with fail
  go_loopw [10] (fun q wr => ∃ (j : Nat) (s : St) (F G : Nat → Prop), q = .int .i64 (j : Int) ∧ j ≤ n ∧ j ≤ 50 ∧ Two w wr a s b s F G) (fun q _ => n - (intOf q).toNat)
  case atStart => exact ⟨0, St.new k, F0, G0, rfl, by omega, by omega, hT0⟩
  case round =>
    clear hT0
    obtain ⟨j, s, F, G, rfl, hj, hj5, hT⟩ := hrel
    by_cases hjn : j < n ∧ j < 50
    · obtain ⟨hjn, hj50⟩ := hjn
      obtain ⟨bl, o, x, cs, rfl, hx, _, hat, rfl, hok⟩ := h.at_ hjn
      have b0 : w.cell? ⟨bl, o + j * 6, none⟩ = some (.int .i64 x.o.kind) := hat 0 _ rfl
      have b1 : w.cell? ⟨bl, o + j * 6 + 1, none⟩ = some (.int .i64 x.o.n) := hat 1 _ rfl
      have b2 : w.cell? ⟨bl, o + j * 6 + 2, none⟩ = some (.string x.o.name) := hat 2 _ rfl
      have b3 : w.cell? ⟨bl, o + j * 6 + 3, none⟩ = some (.string x.o.to) := hat 3 _ rfl
      have b4 : w.cell? ⟨bl, o + j * 6 + 4, none⟩ = some (.slice x.B x.nB x.cB) := hat 4 _ rfl
      have b5 : w.cell? ⟨bl, o + j * 6 + 5, none⟩ = some (.slice x.K x.nK x.cK) := hat 5 _ rfl
      have e1 : decide ((j : Int) < (n : Int)) = true := decide_eq_true (by omega)
      have e2 : decide ((j : Int) < 50) = true := decide_eq_true (by omega)
      clear hat hx
      have x0 := cell_below hT.bel _ _ b0
      have x1 := cell_below hT.bel _ _ b1
      have x2 := cell_below hT.bel _ _ b2
      have x3 := cell_below hT.bel _ _ b3
      have x4 := cell_below hT.bel _ _ b4
      have x5 := cell_below hT.bel _ _ b5
      go_wp2_with fail
      refine (small_any _ x (hok.below hT.bel)).mono ?_
      rintro e w2 ⟨rfl, hb2⟩
      have hT2 := hT.below hb2
      clear x0 x1 x2 x3 x4 x5 hT hb2
      have x0 := cell_below hT2.bel _ _ b0
      have x1 := cell_below hT2.bel _ _ b1
      have x2 := cell_below hT2.bel _ _ b2
      have x3 := cell_below hT2.bel _ _ b3
      have x4 := cell_below hT2.bel _ _ b4
      have x5 := cell_below hT2.bel _ _ b5
      cases hsm : x.o.small
      · have HSM := Lib.hid hsm
        clear hsm
        go_wp2_with fail
        go_roundw
        case rel => exact ⟨j + 1, s, F, G, by go_num, by omega, by omega, hT2⟩
        case measure => simp [intOf]; omega
      · have HSM := Lib.hid hsm
        clear hsm
        go_wp2_with fail
        refine (two_does hT2 x hok rfl rfl).mono ?_
        rintro e w3 ⟨rfl, F3, hT3⟩
        clear x0 x1 x2 x3 x4 x5 hT2
        have x0 := cell_below hT3.bel _ _ b0
        have x1 := cell_below hT3.bel _ _ b1
        have x2 := cell_below hT3.bel _ _ b2
        have x3 := cell_below hT3.bel _ _ b3
        have x4 := cell_below hT3.bel _ _ b4
        have x5 := cell_below hT3.bel _ _ b5
        go_wp2_with fail
        refine (two_does2 hT3 x hok rfl rfl).mono ?_
        rintro e w4 ⟨rfl, G4, hT4⟩
        clear x0 x1 x2 x3 x4 x5 hT3
        go_wp2_with fail
        go_roundw
        case rel => exact ⟨j + 1, _, F3, G4, by go_num, by omega, by omega, hT4⟩
        case measure => simp [intOf]; omega
    · obtain rfl | ⟨rfl, h50⟩ | ⟨rfl, h50⟩ : j = n ∨ (j = 50 ∧ 50 < n) ∨ (j = 50 ∧ n ≤ 50) := by omega
      · have e1 : decide ((j : Int) < (j : Int)) = false := by simp
        go_wp2_with fail
        go_ret2
        exact ⟨_, _, rfl, _, _, _, hT⟩
      · have e1 : decide ((50 : Int) < (n : Int)) = true := decide_eq_true (by omega)
        go_wp2_with fail
        go_ret2
        exact ⟨_, _, rfl, _, _, _, hT⟩
      · have e1 : decide ((50 : Int) < (n : Int)) = false := decide_eq_false (by omega)
        go_wp2_with fail
        go_ret2
        exact ⟨_, _, rfl, _, _, _, hT⟩
set_option maxRecDepth 100000 in
set_option maxHeartbeats 2000000 in
theorem refused_walk (w : World) (m : Nat) (hm16 : m < 65536) (A : Option Addr) (n c : Nat) (xs : List OpC) (h : IsL 6 (fun cs x => cs = x.cells ∧ x.ok w) w A n c xs) :
    Calls Try.prog 10 #[.int .u16 (m : Int), .slice A n c] w fun e w' => e = .returned (.bool true) ∧ Below w.heap.size w w' := by
  have hm := h.max
  have hcap := h.cap
  unfold maxLen at hm
  obtain ⟨k, hk⟩ : ∃ k, m % 1001 = k := ⟨_, rfl⟩
  have hk1 : k ≤ 1000 := by omega
  have hkI : (m : Int) % 1001 = (k : Int) := by omega
  have hk2 : k ≤ 16777216 := by omega
  clear hk
  go_enter Try.func10, Try.ntmps10
  go_wp2_with fail
  refine (new_any k w hk2).mono ?_
  rintro e w1 ⟨a, F0, rfl, hD0, hf0, hb0⟩
  go_wp2_with fail
  refine (new_any k w1 hk2).mono ?_
  rintro e w1' ⟨b, G0, rfl, hG0, hg0, hb1⟩
  have hT0 := two_new hD0 hf0 hb0 hG0 hg0 hb1
  clear hD0 hf0 hb0 hG0 hg0 hb1
  go_wp2_with fail
  go_loopw [9] (fun q wr => ∃ (j : Nat) (s : St) (F G : Nat → Prop), q = .int .i64 (j : Int) ∧ j ≤ n ∧ j ≤ 50 ∧ Two w wr a s b s F G) (fun q _ => n - (intOf q).toNat)
  case atStart => exact ⟨0, St.new k, F0, G0, rfl, by omega, by omega, hT0⟩
  case round =>
    clear hT0
    obtain ⟨j, s, F, G, rfl, hj, hj5, hT⟩ := hrel
    by_cases hjn : j < n ∧ j < 50
    · obtain ⟨hjn, hj50⟩ := hjn
      obtain ⟨bl, o, x, cs, rfl, hx, _, hat, rfl, hok⟩ := h.at_ hjn
      have b0 : w.cell? ⟨bl, o + j * 6, none⟩ = some (.int .i64 x.o.kind) := hat 0 _ rfl
      have b1 : w.cell? ⟨bl, o + j * 6 + 1, none⟩ = some (.int .i64 x.o.n) := hat 1 _ rfl
      have b2 : w.cell? ⟨bl, o + j * 6 + 2, none⟩ = some (.string x.o.name) := hat 2 _ rfl
      have b3 : w.cell? ⟨bl, o + j * 6 + 3, none⟩ = some (.string x.o.to) := hat 3 _ rfl
      have b4 : w.cell? ⟨bl, o + j * 6 + 4, none⟩ = some (.slice x.B x.nB x.cB) := hat 4 _ rfl
      have b5 : w.cell? ⟨bl, o + j * 6 + 5, none⟩ = some (.slice x.K x.nK x.cK) := hat 5 _ rfl
      have e1 : decide ((j : Int) < (n : Int)) = true := decide_eq_true (by omega)
      have e2 : decide ((j : Int) < 50) = true := decide_eq_true (by omega)
      clear hat hx
      have x0 := cell_below hT.bel _ _ b0
      have x1 := cell_below hT.bel _ _ b1
      have x2 := cell_below hT.bel _ _ b2
      have x3 := cell_below hT.bel _ _ b3
      have x4 := cell_below hT.bel _ _ b4
      have x5 := cell_below hT.bel _ _ b5
      go_wp2_with fail
      refine (small_any _ x (hok.below hT.bel)).mono ?_
      rintro e w2 ⟨rfl, hb2⟩
      have hT2 := hT.below hb2
      clear x0 x1 x2 x3 x4 x5 hT hb2
      have x0 := cell_below hT2.bel _ _ b0
      have x1 := cell_below hT2.bel _ _ b1
      have x2 := cell_below hT2.bel _ _ b2
      have x3 := cell_below hT2.bel _ _ b3
      have x4 := cell_below hT2.bel _ _ b4
      have x5 := cell_below hT2.bel _ _ b5
      cases hsm : x.o.small
      · have HSM := Lib.hid hsm
        clear hsm
        go_wp2_with fail
        go_roundw
        case rel => exact ⟨j + 1, s, F, G, by go_num, by omega, by omega, hT2⟩
        case measure => simp [intOf]; omega
      · have HSM := Lib.hid hsm
        clear hsm
        obtain ⟨s', hs'⟩ : ∃ q, (s.does x.o).1 = q := ⟨_, rfl⟩
        obtain ⟨er, her⟩ : ∃ q, (s.does x.o).2 = q := ⟨_, rfl⟩
        by_cases r0 : er = 0
        · have hev : ((s.does x.o).2 : Int) = 0 := by rw [her, r0]; rfl
          clear her r0
          go_wp2_with fail
          refine (two_does hT2 x hok hs' hev).mono ?_
          rintro e w3 ⟨rfl, F3, hT3⟩
          clear x0 x1 x2 x3 x4 x5 hT2
          have x0 := cell_below hT3.bel _ _ b0
          have x1 := cell_below hT3.bel _ _ b1
          have x2 := cell_below hT3.bel _ _ b2
          have x3 := cell_below hT3.bel _ _ b3
          have x4 := cell_below hT3.bel _ _ b4
          have x5 := cell_below hT3.bel _ _ b5
          go_wp2_with fail
          refine (two_does2 hT3 x hok hs' hev).mono ?_
          rintro e w4 ⟨rfl, G4, hT4⟩
          clear x0 x1 x2 x3 x4 x5 hT3
          go_wp2_with fail
          refine (alike_any hT4.one hT4.two rfl rfl).mono ?_
          rintro e w5 ⟨rfl, hb5⟩
          have hT5 := hT4.below hb5
          go_wp2_with fail
          go_roundw
          case rel => exact ⟨j + 1, _, F3, G4, by go_num, by omega, by omega, hT5⟩
          case measure => simp [intOf]; omega
        by_cases r15 : er = 15
        · have hev : ((s.does x.o).2 : Int) = 15 := by rw [her, r15]; rfl
          clear her r0 r15
          go_wp2_with fail
          refine (two_does hT2 x hok hs' hev).mono ?_
          rintro e w3 ⟨rfl, F3, hT3⟩
          clear x0 x1 x2 x3 x4 x5 hT2
          have x0 := cell_below hT3.bel _ _ b0
          have x1 := cell_below hT3.bel _ _ b1
          have x2 := cell_below hT3.bel _ _ b2
          have x3 := cell_below hT3.bel _ _ b3
          have x4 := cell_below hT3.bel _ _ b4
          have x5 := cell_below hT3.bel _ _ b5
          go_wp2_with fail
          refine (two_does2 hT3 x hok hs' hev).mono ?_
          rintro e w4 ⟨rfl, G4, hT4⟩
          clear x0 x1 x2 x3 x4 x5 hT3
          go_wp2_with fail
          refine (alike_any hT4.one hT4.two rfl rfl).mono ?_
          rintro e w5 ⟨rfl, hb5⟩
          have hT5 := hT4.below hb5
          go_wp2_with fail
          go_roundw
          case rel => exact ⟨j + 1, _, F3, G4, by go_num, by omega, by omega, hT5⟩
          case measure => simp [intOf]; omega
        have hsame : (s.does x.o).1 = s := does_refused (by rw [her]; exact r0) (by rw [her]; exact r15)
        obtain ⟨ev, hev⟩ : ∃ ev : Int, ((s.does x.o).2 : Int) = ev := ⟨_, rfl⟩
        have p0 : ¬ ev = 0 := by rw [← hev, her]; omega
        have p15 : ¬ ev = 15 := by rw [← hev, her]; omega
        have v0 : (ev != 0) = true := by simpa using p0
        have v15 : (ev != 15) = true := by simpa using p15
        clear p0 p15
        clear her r0 r15 hs'
        go_wp2_with fail
        refine (two_does hT2 x hok hsame hev).mono ?_
        rintro e w3 ⟨rfl, F3, hT3⟩
        clear x0 x1 x2 x3 x4 x5 hT2
        go_wp2_with fail
        go_roundw
        case rel => exact ⟨j + 1, s, F3, G, by go_num, by omega, by omega, hT3⟩
        case measure => simp [intOf]; omega
    · obtain rfl | ⟨rfl, h50⟩ | ⟨rfl, h50⟩ : j = n ∨ (j = 50 ∧ 50 < n) ∨ (j = 50 ∧ n ≤ 50) := by omega
      · have e1 : decide ((j : Int) < (j : Int)) = false := by simp
        go_wp2_with fail
        refine (awake2_any _).mono ?_
        rintro e w9 ⟨rfl, hb9⟩
        go_wp2_with fail
        go_ret
        exact ⟨rfl, bst hT.bel hb9⟩
      · have e1 : decide ((50 : Int) < (n : Int)) = true := decide_eq_true (by omega)
        go_wp2_with fail
        refine (awake2_any _).mono ?_
        rintro e w9 ⟨rfl, hb9⟩
        go_wp2_with fail
        go_ret
        exact ⟨rfl, bst hT.bel hb9⟩
      · have e1 : decide ((50 : Int) < (n : Int)) = false := decide_eq_false (by omega)
        go_wp2_with fail
        refine (awake2_any _).mono ?_
        rintro e w9 ⟨rfl, hb9⟩
        go_wp2_with fail
        go_ret
        exact ⟨rfl, bst hT.bel hb9⟩
end Go.Proofs.Ytdcflgblaljdeaa
