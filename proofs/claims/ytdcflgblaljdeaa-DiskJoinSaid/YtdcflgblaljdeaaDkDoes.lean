/-
  The disk's laws' own calls: an Op in memory, what is looked at, what a call does.
-/
import Derived.Test.YtdcflgblaljdeaaDkSess
set_option linter.unusedVariables false
set_option linter.unusedSimpArgs false
namespace Go.Proofs.Ytdcflgblaljdeaa
open Go.RowKit Go.Maps

structure OpV where
  kind : Int
  n : Int
  name : ByteArray
  to : ByteArray
  b : List UInt8
  keeps : List Int
/-- a call with where its parts lie -/
structure OpC where
  o : OpV
  B : Option Addr
  nB : Nat
  cB : Nat
  K : Option Addr
  nK : Nat
  cK : Nat
def OpC.cells (x : OpC) : List Value := [.int .i64 x.o.kind, .int .i64 x.o.n, .string x.o.name, .string x.o.to, .slice x.B x.nB x.cB, .slice x.K x.nK x.cK]
structure OpC.ok (w : World) (x : OpC) : Prop where
  b : IsB w x.B x.nB x.cB x.o.b
  k : IsI w x.K x.nK x.cK x.o.keeps
  cb : x.nB ≤ maxLen
  ck : x.nK ≤ maxLen
  name : x.o.name.size ≤ maxLen
  to : x.o.to.size ≤ maxLen
  n0 : -9223372036854775808 ≤ x.o.n
  n1 : x.o.n ≤ 9223372036854775807
theorem OpC.ok.below {w w' : World} {x : OpC} (h : x.ok w) (hb : Below w.heap.size w w') : x.ok w' :=
  ⟨h.b.below hb, ⟨h.k.len, h.k.cap, h.k.rng, by
    rcases h.k.src with h0 | ⟨b, o, hA, hc⟩
    · exact .inl h0
    · exact .inr ⟨b, o, hA, fun j z hj => cell_below hb _ _ (hc j z hj)⟩⟩, h.cb, h.ck, h.name, h.to, h.n0, h.n1⟩
/-- the numbers of a crash lie in what came in -/
theorem OpC.ok.old {w : World} {x : OpC} (h : x.ok w) : ∀ ad, x.K = some ad → x.o.keeps ≠ [] → ad.block < w.heap.size := by
  intro ad hA hne
  rcases h.k.src with h0 | ⟨b, o, hA', hc⟩
  · exact absurd h0 hne
  · rw [hA] at hA'
    cases hA'
    cases hk : x.o.keeps with
    | nil => exact absurd hk hne
    | cons z r =>
      have := hc 0 z (by rw [hk]; rfl)
      rcases Nat.lt_or_ge b w.heap.size with h1 | h1
      · exact h1
      · exfalso
        have hn : w.heap[b]? = none := Array.getElem?_eq_none h1
        simp [World.cell?, hn] at this

def OpV.small (o : OpV) : Bool := o.b.length ≤ 200 && o.name.size ≤ 100 && o.to.size ≤ 100 && o.keeps.length ≤ 300
def St.does (s : St) (o : OpV) : St × Nat :=
  if o.kind = 1 ∨ o.kind = 2 ∨ o.kind = 3 then s.append o.name.data.toList o.b
  else if o.kind = 4 ∨ o.kind = 5 then s.sync o.name.data.toList
  else if o.kind = 6 then s.rename o.name.data.toList o.to.data.toList
  else if o.kind = 7 then s.remove o.name.data.toList
  else if o.kind = 8 then s.cut o.name.data.toList o.n
  else if o.kind = 9 then (s.arm' o.n, 0)
  else if o.kind = 10 then (s.crash o.keeps, 0)
  else (s, 0)

theorem turned_below {w w1 w' : World} {F : Nat → Prop} {a : Nat} {s : St} (hb : Below w.heap.size w w1) (h : Turned w1 F a w' s) : Turned w F a w' s := by
  obtain ⟨F', hd, ha, hF⟩ := h
  refine ⟨F', hd, (Away.of_new hb F).trans ha fun b e => .inl e, fun b hb' => ?_⟩
  rcases hF b hb' with e | e
  · exact .inl e
  · exact .inr (Nat.le_trans hb.size e)
theorem turned_same {w w' : World} {F : Nat → Prop} {a : Nat} {s : St} (h : Dk w F a s) (hb : Below w.heap.size w w') : Turned w F a w' s :=
  ⟨F, h.below hb, Away.of_new hb F, fun b e => .inl e⟩

set_option maxRecDepth 100000 in
theorem small_any (w : World) (x : OpC) (hx : x.ok w) :
    Calls Try.prog 46 #[.agg #[.int .i64 x.o.kind, .int .i64 x.o.n, .string x.o.name, .string x.o.to, .slice x.B x.nB x.cB, .slice x.K x.nK x.cK]] w fun e w' => e = .returned (.bool x.o.small) ∧ Below w.heap.size w w' := by
  obtain ⟨⟨kind, n, name, to, b, keeps⟩, B, nB, cB, K, nK, cK⟩ := x
  have hlb := hx.b.len
  have hlk := hx.k.len
  have q1 := hx.cb
  have q2 := hx.ck
  have q3 := hx.name
  have q4 := hx.to
  clear hx
  dsimp only at *
  unfold maxLen at q1 q2 q3 q4
  subst hlb; subst hlk
  have hs : (OpV.mk kind n name to b keeps).small = (decide (b.length ≤ 200) && decide (name.size ≤ 100) && decide (to.size ≤ 100) && decide (keeps.length ≤ 300)) := rfl
  rw [hs]
  clear hs
  generalize b.length = nB at *
  generalize keeps.length = nK at *
  by_cases h1 : nB ≤ 200
  · by_cases h2 : name.size ≤ 100
    · by_cases h3 : to.size ≤ 100
      · by_cases h4 : nK ≤ 300
        · rw [decide_eq_true h1, decide_eq_true h2, decide_eq_true h3, decide_eq_true h4]
          go_enter Try.func46, Try.ntmps46
          go_wp2_with fail
          go_ret
          refine ⟨?_, (Below.refl _ w).alloc (Nat.le_refl _) _⟩
          show Ending.returned (Value.bool (decide ((nK : Int) ≤ 300))) = _
          rw [decide_eq_true (by omega)]
          rfl
        · rw [decide_eq_true h1, decide_eq_true h2, decide_eq_true h3, decide_eq_false h4]
          go_enter Try.func46, Try.ntmps46
          go_wp2_with fail
          go_ret
          refine ⟨?_, (Below.refl _ w).alloc (Nat.le_refl _) _⟩
          show Ending.returned (Value.bool (decide ((nK : Int) ≤ 300))) = _
          rw [decide_eq_false (by omega)]
          rfl
      · rw [decide_eq_true h1, decide_eq_true h2, decide_eq_false h3]
        go_enter Try.func46, Try.ntmps46
        go_wp2_with fail
        go_ret
        exact ⟨rfl, (Below.refl _ w).alloc (Nat.le_refl _) _⟩
    · rw [decide_eq_true h1, decide_eq_false h2]
      go_enter Try.func46, Try.ntmps46
      go_wp2_with fail
      go_ret
      exact ⟨rfl, (Below.refl _ w).alloc (Nat.le_refl _) _⟩
  · rw [decide_eq_false h1]
    go_enter Try.func46, Try.ntmps46
    go_wp2_with fail
    go_ret
    exact ⟨rfl, (Below.refl _ w).alloc (Nat.le_refl _) _⟩

theorem kinds_of (k : Int) : k = 1 ∨ k = 2 ∨ k = 3 ∨ k = 4 ∨ k = 5 ∨ k = 6 ∨ k = 7 ∨ k = 8 ∨ k = 9 ∨ k = 10 ∨ (k ≠ 1 ∧ k ≠ 2 ∧ k ≠ 3 ∧ k ≠ 4 ∧ k ≠ 5 ∧ k ≠ 6 ∧ k ≠ 7 ∧ k ≠ 8 ∧ k ≠ 9 ∧ k ≠ 10) := by omega
set_option maxRecDepth 100000 in
set_option maxHeartbeats 1000000 in
theorem does_any {w : World} {F : Nat → Prop} {a : Nat} {s : St} (h : Dk w F a s) (x : OpC) (hx : x.ok w) (hk : ∀ ad, x.K = some ad → x.o.keeps ≠ [] → ¬ F ad.block) :
    Calls Try.prog 47 #[.pointer (some ⟨a, 0, none⟩), .agg #[.int .i64 x.o.kind, .int .i64 x.o.n, .string x.o.name, .string x.o.to, .slice x.B x.nB x.cB, .slice x.K x.nK x.cK]] w fun e w' =>
      e = .returned (.int .i64 ((s.does x.o).2 : Int)) ∧ Turned w F a w' (s.does x.o).1 := by
  obtain ⟨⟨kind, n, name, to, b, keeps⟩, B, nB, cB, K, nK, cK⟩ := x
  have hb := hx.b
  have hkk := hx.k
  have q1 := hx.cb
  have q2 := hx.ck
  have q3 := hx.name
  have q4 := hx.to
  have q5 := hx.n0
  have q6 := hx.n1
  clear hx
  dsimp only at *
  rcases kinds_of kind with rfl | rfl | rfl | rfl | rfl | rfl | rfl | rfl | rfl | rfl | ⟨k1, k2, k3, k4, k5, k6, k7, k8, k9, k10⟩
  · have e : s.does ⟨1, n, name, to, b, keeps⟩ = s.append name.data.toList b := by unfold St.does; simp
    rw [e]
    clear e
    go_enter Try.func47, Try.ntmps47
    go_wp2_with fail
    refine (append_disk (h.below ((Below.refl _ w).alloc (Nat.le_refl _) _)) name q3 (hb.alloc _) q1).mono ?_
    rintro e w' ⟨rfl, ht⟩
    go_wp2_with fail
    go_ret
    exact ⟨rfl, turned_below ((Below.refl _ w).alloc (Nat.le_refl _) _) ht⟩
  · have e : s.does ⟨2, n, name, to, b, keeps⟩ = s.append name.data.toList b := by unfold St.does; simp
    rw [e]
    clear e
    go_enter Try.func47, Try.ntmps47
    go_wp2_with fail
    refine (append_disk (h.below ((Below.refl _ w).alloc (Nat.le_refl _) _)) name q3 (hb.alloc _) q1).mono ?_
    rintro e w' ⟨rfl, ht⟩
    go_wp2_with fail
    go_ret
    exact ⟨rfl, turned_below ((Below.refl _ w).alloc (Nat.le_refl _) _) ht⟩
  · have e : s.does ⟨3, n, name, to, b, keeps⟩ = s.append name.data.toList b := by unfold St.does; simp
    rw [e]
    clear e
    go_enter Try.func47, Try.ntmps47
    go_wp2_with fail
    refine (append_disk (h.below ((Below.refl _ w).alloc (Nat.le_refl _) _)) name q3 (hb.alloc _) q1).mono ?_
    rintro e w' ⟨rfl, ht⟩
    go_wp2_with fail
    go_ret
    exact ⟨rfl, turned_below ((Below.refl _ w).alloc (Nat.le_refl _) _) ht⟩
  · have e : s.does ⟨4, n, name, to, b, keeps⟩ = s.sync name.data.toList := by unfold St.does; simp
    rw [e]
    clear e
    go_enter Try.func47, Try.ntmps47
    go_wp2_with fail
    refine (sync_any (h.below ((Below.refl _ w).alloc (Nat.le_refl _) _)) name q3).mono ?_
    rintro e w' ⟨rfl, ht⟩
    go_wp2_with fail
    go_ret
    exact ⟨rfl, turned_below ((Below.refl _ w).alloc (Nat.le_refl _) _) ht⟩
  · have e : s.does ⟨5, n, name, to, b, keeps⟩ = s.sync name.data.toList := by unfold St.does; simp
    rw [e]
    clear e
    go_enter Try.func47, Try.ntmps47
    go_wp2_with fail
    refine (sync_any (h.below ((Below.refl _ w).alloc (Nat.le_refl _) _)) name q3).mono ?_
    rintro e w' ⟨rfl, ht⟩
    go_wp2_with fail
    go_ret
    exact ⟨rfl, turned_below ((Below.refl _ w).alloc (Nat.le_refl _) _) ht⟩
  · have e : s.does ⟨6, n, name, to, b, keeps⟩ = s.rename name.data.toList to.data.toList := by unfold St.does; simp
    rw [e]
    clear e
    go_enter Try.func47, Try.ntmps47
    go_wp2_with fail
    refine (rename_any (h.below ((Below.refl _ w).alloc (Nat.le_refl _) _)) name q3 to q4).mono ?_
    rintro e w' ⟨rfl, ht⟩
    go_wp2_with fail
    go_ret
    exact ⟨rfl, turned_below ((Below.refl _ w).alloc (Nat.le_refl _) _) ht⟩
  · have e : s.does ⟨7, n, name, to, b, keeps⟩ = s.remove name.data.toList := by unfold St.does; simp
    rw [e]
    clear e
    go_enter Try.func47, Try.ntmps47
    go_wp2_with fail
    refine (remove_any (h.below ((Below.refl _ w).alloc (Nat.le_refl _) _)) name q3).mono ?_
    rintro e w' ⟨rfl, ht⟩
    go_wp2_with fail
    go_ret
    exact ⟨rfl, turned_below ((Below.refl _ w).alloc (Nat.le_refl _) _) ht⟩
  · have e : s.does ⟨8, n, name, to, b, keeps⟩ = s.cut name.data.toList n := by unfold St.does; simp
    rw [e]
    clear e
    go_enter Try.func47, Try.ntmps47
    go_wp2_with fail
    refine (cut_any (h.below ((Below.refl _ w).alloc (Nat.le_refl _) _)) name q3 n q5 q6).mono ?_
    rintro e w' ⟨rfl, ht⟩
    go_wp2_with fail
    go_ret
    exact ⟨rfl, turned_below ((Below.refl _ w).alloc (Nat.le_refl _) _) ht⟩
  · have e : s.does ⟨9, n, name, to, b, keeps⟩ = (s.arm' n, 0) := by unfold St.does; simp
    rw [e]
    clear e
    go_enter Try.func47, Try.ntmps47
    go_wp2_with fail
    refine (arm_any (h.below ((Below.refl _ w).alloc (Nat.le_refl _) _)) n q5 q6).mono ?_
    rintro e w' ⟨rfl, ht⟩
    go_wp2_with fail
    go_ret
    exact ⟨rfl, turned_below ((Below.refl _ w).alloc (Nat.le_refl _) _) ht⟩
  · have e : s.does ⟨10, n, name, to, b, keeps⟩ = (s.crash keeps, 0) := by unfold St.does; simp
    rw [e]
    clear e
    go_enter Try.func47, Try.ntmps47
    go_wp2_with fail
    refine (crash_any (h.below ((Below.refl _ w).alloc (Nat.le_refl _) _)) (hkk.away (Away.of_new ((Below.refl _ w).alloc (Nat.le_refl _) _) (fun _ => False)) (fun _ _ f => f)) q2 hk).mono ?_
    rintro e w' ⟨rfl, ht⟩
    go_wp2_with fail
    go_ret
    exact ⟨rfl, turned_below ((Below.refl _ w).alloc (Nat.le_refl _) _) ht⟩
  · have e : s.does ⟨kind, n, name, to, b, keeps⟩ = (s, 0) := by unfold St.does; simp [k1, k2, k3, k4, k5, k6, k7, k8, k9, k10]
    rw [e]
    clear e
    have d1 : (kind == 1) = false := by simpa using k1
    have d2 : (kind == 2) = false := by simpa using k2
    have d3 : (kind == 3) = false := by simpa using k3
    have d4 : (kind == 4) = false := by simpa using k4
    have d5 : (kind == 5) = false := by simpa using k5
    have d6 : (kind == 6) = false := by simpa using k6
    have d7 : (kind == 7) = false := by simpa using k7
    have d8 : (kind == 8) = false := by simpa using k8
    have d9 : (kind == 9) = false := by simpa using k9
    have d10 : (kind == 10) = false := by simpa using k10
    clear k1 k2 k3 k4 k5 k6 k7 k8 k9 k10
    go_enter Try.func47, Try.ntmps47
    go_wp2_with fail
    go_ret
    exact ⟨rfl, turned_same h ((Below.refl _ w).alloc (Nat.le_refl _) _)⟩

/-- one disk of the law's own -/
theorem s_does {w0 w : World} {a : Nat} {s : St} (h : Sess w0 w a s) (x : OpC) (hx : x.ok w0) :
    Calls Try.prog 47 #[.pointer (some ⟨a, 0, none⟩), .agg #[.int .i64 x.o.kind, .int .i64 x.o.n, .string x.o.name, .string x.o.to, .slice x.B x.nB x.cB, .slice x.K x.nK x.cK]] w fun e w' =>
      e = .returned (.int .i64 ((s.does x.o).2 : Int)) ∧ Sess w0 w' a (s.does x.o).1 := by
  obtain ⟨F, hd, hf, h0⟩ := h
  refine (does_any hd x (hx.below h0) fun ad hA hne hF => ?_).mono ?_
  · have := hf _ hF
    have := hx.old ad hA hne
    omega
  · rintro e w' ⟨rfl, ht⟩
    exact ⟨rfl, sess_turned hf h0 ht⟩
end Go.Proofs.Ytdcflgblaljdeaa
