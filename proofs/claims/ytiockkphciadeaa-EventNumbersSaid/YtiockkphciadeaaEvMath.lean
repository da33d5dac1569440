/-
  Events as bytes, and frames of them: plain facts, without the program.
-/
import Derived.Test.YtiockkphciadeaaPagesMath
import Derived.Test.YtiockkphciadeaaRefMath
import Derived.Test.YtiockkphciadeaaPlacesMath
set_option linter.unusedVariables false
namespace Go.Proofs.Ytiockkphciadeaa
open Go.RowKit
open Go.Lib (uvarint)

structure Ev where
  th : Int
  op : Nat
  obj : Int
  a : Int
  b : Int
def Ev.zero : Ev := ⟨0, 0, 0, 0, 0⟩
def In64 (x : Int) : Prop := -9223372036854775808 ≤ x ∧ x ≤ 9223372036854775807
structure Ev.ok (e : Ev) : Prop where
  th : In64 e.th
  op : e.op < 256
  obj : In64 e.obj
  a : In64 e.a
  b : In64 e.b
theorem Ev.zero_ok : Ev.zero.ok := by constructor <;> (try unfold In64) <;> decide
def svar (x : Int) : List UInt8 := uvarint (Lib.zigzag x)
def dif (p e : Int) : Int := wrap64 (e - p)
theorem wrap64_in (x : Int) : In64 (wrap64 x) := by unfold In64 wrap64; omega
theorem dif_in (p e : Int) : In64 (dif p e) := wrap64_in _
theorem dif_back {p e : Int} (he : In64 e) : wrap64 (p + dif p e) = e := by unfold In64 at he; unfold dif wrap64; omega
theorem dif_of {p x : Int} (hx : In64 x) : dif p (wrap64 (p + x)) = x := by unfold In64 at hx; unfold dif wrap64; omega
theorem dif_self (e : Int) : dif e e = 0 := by unfold dif wrap64; omega
theorem dif_shift (p e d : Int) : dif (wrap64 (p + d)) (wrap64 (e + d)) = dif p e := by unfold dif wrap64; omega
theorem dif_inj {p x y : Int} (hx : In64 x) (hy : In64 y) (h : dif p x = dif p y) : x = y := by
  rw [← dif_back (p := p) hx, h, dif_back hy]
def encEv (p e : Ev) : List UInt8 := e.op.toUInt8 :: (svar (dif p.th e.th) ++ (svar (dif p.obj e.obj) ++ (svar (dif p.a e.a) ++ svar (dif p.b e.b))))

theorem svar_pos (x : Int) : 1 ≤ (svar x).length := Lib.uvarint_pos _
theorem svar_most {x : Int} (h : In64 x) : (svar x).length ≤ 10 := Lib.uvarint_length64 (Lib.zigzag_lt h.1 h.2)
theorem encEv_least (p e : Ev) : 5 ≤ (encEv p e).length := by
  have h1 := svar_pos (dif p.th e.th); have h2 := svar_pos (dif p.obj e.obj); have h3 := svar_pos (dif p.a e.a); have h4 := svar_pos (dif p.b e.b)
  unfold encEv
  rw [List.length_cons, List.length_append, List.length_append, List.length_append]
  omega
theorem encEv_most (p e : Ev) : (encEv p e).length ≤ 41 := by
  have h1 := svar_most (dif_in p.th e.th); have h2 := svar_most (dif_in p.obj e.obj); have h3 := svar_most (dif_in p.a e.a); have h4 := svar_most (dif_in p.b e.b)
  unfold encEv
  rw [List.length_cons, List.length_append, List.length_append, List.length_append]
  omega
theorem svar_zero : svar 0 = [0] := Lib.uvarint_small (by decide)
theorem encEv_self (e : Ev) : encEv e e = [e.op.toUInt8, 0, 0, 0, 0] := by
  unfold encEv
  rw [dif_self, dif_self, dif_self, dif_self, svar_zero]
  rfl
theorem svar_front {x y : Int} {r s : List UInt8} (hx : In64 x) (hy : In64 y) (h : svar x ++ r = svar y ++ s) : x = y ∧ r = s := by
  obtain ⟨h1, h2⟩ := uvarint_front (Lib.zigzag_lt hx.1 hx.2) (Lib.zigzag_lt hy.1 hy.2) h
  exact ⟨by rw [← unzigzag_zigzag x, h1, unzigzag_zigzag], h2⟩
theorem op_inj {a b : Nat} (ha : a < 256) (hb : b < 256) (h : a.toUInt8 = b.toUInt8) : a = b := by
  have := congrArg UInt8.toNat h
  rwa [byte_toNat ha, byte_toNat hb] at this
/-- one event's bytes tell it, and where they end -/
theorem encEv_front {p x y : Ev} {r s : List UInt8} (hx : x.ok) (hy : y.ok) (h : encEv p x ++ r = encEv p y ++ s) : x = y ∧ r = s := by
  unfold encEv at h
  rw [List.cons_append, List.cons_append, List.append_assoc, List.append_assoc, List.append_assoc, List.append_assoc, List.append_assoc, List.append_assoc] at h
  injection h with h0 h
  obtain ⟨h1, h⟩ := svar_front (dif_in _ _) (dif_in _ _) h
  obtain ⟨h2, h⟩ := svar_front (dif_in _ _) (dif_in _ _) h
  obtain ⟨h3, h⟩ := svar_front (dif_in _ _) (dif_in _ _) h
  obtain ⟨h4, h⟩ := svar_front (dif_in _ _) (dif_in _ _) h
  refine ⟨?_, h⟩
  have e0 := op_inj hx.op hy.op h0
  have e1 := dif_inj hx.th hy.th h1
  have e2 := dif_inj hx.obj hy.obj h2
  have e3 := dif_inj hx.a hy.a h3
  have e4 := dif_inj hx.b hy.b h4
  obtain ⟨a, b, c, d, e⟩ := x
  obtain ⟨a', b', c', d', e'⟩ := y
  simp only at e0 e1 e2 e3 e4
  rw [e0, e1, e2, e3, e4]

/- ## Reading -/
/-- the place and the error so far; one more number -/
def stp (l : List UInt8) (s : Nat × Nat) : Nat × Nat := if s.2 = 0 then (nextU s.1 (getU (l.drop s.1)), (getU (l.drop s.1)).2.2) else s
def stv (l : List UInt8) (s : Nat × Nat) (was : Int) : Int := if s.2 = 0 then wrap64 (was + Lib.unzigzag (getU (l.drop s.1)).1) else 0
def stpN (l : List UInt8) : Nat → Nat × Nat → Nat × Nat
  | 0, s => s
  | n + 1, s => stp l (stpN l n s)
def rawEv (p : Ev) (l : List UInt8) (k op : Nat) : Ev :=
  ⟨stv l (stpN l 0 (k, 0)) p.th, op, stv l (stpN l 1 (k, 0)) p.obj, stv l (stpN l 2 (k, 0)) p.a, stv l (stpN l 3 (k, 0)) p.b⟩
/-- the event, the place behind it, the error: at a place k that there is -/
def getEv (p : Ev) (l : List UInt8) (k : Nat) : Ev × Nat × Nat :=
  match l[k]? with
  | none => (Ev.zero, 0, 11)
  | some x => if (stpN l 4 (k + 1, 0)).2 = 0 then (rawEv p l (k + 1) x.toNat, (stpN l 4 (k + 1, 0)).1, 0) else (Ev.zero, 0, (stpN l 4 (k + 1, 0)).2)

theorem stp_svar {l r : List UInt8} {k : Nat} {x : Int} (hx : In64 x) (h : l.drop k = svar x ++ r) : stp l (k, 0) = (k + (svar x).length, 0) ∧ ∀ was, stv l (k, 0) was = wrap64 (was + x) := by
  have hg := getU_uvarint r (Lib.zigzag_lt hx.1 hx.2)
  unfold svar at h ⊢
  constructor
  · unfold stp nextU
    simp only [h, hg, if_pos]
  · intro was
    unfold stv
    simp only [h, hg, if_pos, unzigzag_zigzag]
theorem drop_more {l r s : List UInt8} {k : Nat} (h : l.drop k = s ++ r) : l.drop (k + s.length) = r := by
  rw [← List.drop_drop, h, List.drop_left]
theorem getEv_enc {p e : Ev} {l r : List UInt8} {k : Nat} (he : e.ok) (h : l.drop k = encEv p e ++ r) : getEv p l k = (e, k + (encEv p e).length, 0) := by
  unfold encEv at h
  rw [List.cons_append, List.append_assoc, List.append_assoc, List.append_assoc] at h
  have h0 : l[k]? = some e.op.toUInt8 := by
    have := congrArg (fun q : List UInt8 => q[0]?) h
    simpa using this
  have h1 : l.drop (k + 1) = _ := drop_more (s := [e.op.toUInt8]) h
  obtain ⟨a1, b1⟩ := stp_svar (dif_in _ _) h1
  have h2 := drop_more h1
  obtain ⟨a2, b2⟩ := stp_svar (dif_in _ _) h2
  have h3 := drop_more h2
  obtain ⟨a3, b3⟩ := stp_svar (dif_in _ _) h3
  have h4 := drop_more h3
  obtain ⟨a4, b4⟩ := stp_svar (dif_in _ _) h4
  unfold getEv rawEv
  rw [h0]
  have hop : (e.op.toUInt8).toNat = e.op := byte_toNat he.op
  simp only [stpN, a1, a2, a3, a4, b1, b2, b3, b4, if_pos, hop, dif_back he.th, dif_back he.obj, dif_back he.a, dif_back he.b]
  refine Prod.ext rfl (Prod.ext ?_ rfl)
  show _ = k + (encEv p e).length
  unfold encEv
  dsimp only
  rw [List.length_cons, List.length_append, List.length_append, List.length_append]
  omega
theorem stp_ok {l : List UInt8} {s : Nat × Nat} (h : (stp l s).2 = 0) : s.2 = 0 := by
  unfold stp at h
  split at h
  · assumption
  · exact h
theorem stp_sound {l : List UInt8} {k : Nat} (h : (stp l (k, 0)).2 = 0) : ∃ x r, In64 x ∧ l.drop k = svar x ++ r ∧ (stp l (k, 0)).1 = k + (svar x).length ∧ ∀ was, stv l (k, 0) was = wrap64 (was + x) := by
  unfold stp at h
  rw [if_pos rfl] at h
  have hl := getU_lt (l.drop k)
  generalize hq : getU (l.drop k) = q at h hl
  obtain ⟨v, m, e⟩ := q
  simp only at h hl
  subst h
  obtain ⟨r, h1, h2⟩ := getU_sound hq
  have hz : In64 (Lib.unzigzag v) := by
    unfold In64 Lib.unzigzag
    split <;> omega
  refine ⟨Lib.unzigzag v, r, hz, ?_, ?_, ?_⟩
  · unfold svar; rw [zigzag_unzigzag]; exact h1
  · unfold stp nextU svar
    rw [if_pos rfl, hq, zigzag_unzigzag, ← h2]
    simp
  · intro was
    unfold stv
    rw [if_pos rfl, hq]
theorem getEv_sound {p : Ev} {l : List UInt8} {k : Nat} (h : (getEv p l k).2.2 = 0) :
    (getEv p l k).1.ok ∧ ∃ r, l.drop k = encEv p (getEv p l k).1 ++ r ∧ (getEv p l k).2.1 = k + (encEv p (getEv p l k).1).length := by
  unfold getEv at h ⊢
  cases h0 : l[k]? with
  | none => rw [h0] at h; simp at h
  | some x =>
    rw [h0] at h
    simp only at h ⊢
    by_cases h4 : (stpN l 4 (k + 1, 0)).2 = 0
    · rw [if_pos h4]
      have g3 : (stpN l 3 (k + 1, 0)).2 = 0 := stp_ok h4
      have g2 : (stpN l 2 (k + 1, 0)).2 = 0 := stp_ok g3
      have g1 : (stpN l 1 (k + 1, 0)).2 = 0 := stp_ok g2
      have hd := drop_cons h0
      obtain ⟨x1, r1, i1, d1, n1, v1⟩ := stp_sound (l := l) (k := k + 1) g1
      have e1 : stpN l 1 (k + 1, 0) = (k + 1 + (svar x1).length, 0) := Prod.ext n1 g1
      have g2' : (stp l (k + 1 + (svar x1).length, 0)).2 = 0 := by rw [← e1]; exact g2
      obtain ⟨x2, r2, i2, d2, n2, v2⟩ := stp_sound g2'
      have e2 : stpN l 2 (k + 1, 0) = (k + 1 + (svar x1).length + (svar x2).length, 0) := by
        show stp l (stpN l 1 (k + 1, 0)) = _
        rw [e1]; exact Prod.ext n2 g2'
      have g3' : (stp l (k + 1 + (svar x1).length + (svar x2).length, 0)).2 = 0 := by rw [← e2]; exact g3
      obtain ⟨x3, r3, i3, d3, n3, v3⟩ := stp_sound g3'
      have e3 : stpN l 3 (k + 1, 0) = (k + 1 + (svar x1).length + (svar x2).length + (svar x3).length, 0) := by
        show stp l (stpN l 2 (k + 1, 0)) = _
        rw [e2]; exact Prod.ext n3 g3'
      have g4' : (stp l (k + 1 + (svar x1).length + (svar x2).length + (svar x3).length, 0)).2 = 0 := by rw [← e3]; exact h4
      obtain ⟨x4, r4, i4, d4, n4, v4⟩ := stp_sound g4'
      have e4 : stpN l 4 (k + 1, 0) = (k + 1 + (svar x1).length + (svar x2).length + (svar x3).length + (svar x4).length, 0) := by
        show stp l (stpN l 3 (k + 1, 0)) = _
        rw [e3]; exact Prod.ext n4 g4'
      have f1 : r1 = svar x2 ++ r2 := by rw [← d2]; exact (drop_more d1).symm
      have f2 : r2 = svar x3 ++ r3 := by rw [← d3]; exact (drop_more d2).symm
      have f3 : r3 = svar x4 ++ r4 := by rw [← d4]; exact (drop_more d3).symm
      have hraw : rawEv p l (k + 1) x.toNat = ⟨wrap64 (p.th + x1), x.toNat, wrap64 (p.obj + x2), wrap64 (p.a + x3), wrap64 (p.b + x4)⟩ := by
        unfold rawEv
        rw [e1, e2, e3]
        simp only [stpN, v1, v2, v3, v4]
      simp only [hraw]
      refine ⟨⟨wrap64_in _, x.toNat_lt, wrap64_in _, wrap64_in _, wrap64_in _⟩, r4, ?_, ?_⟩
      · rw [hd, d1, f1, f2, f3]
        unfold encEv
        simp only [dif_of i1, dif_of i2, dif_of i3, dif_of i4]
        have hx : (x.toNat).toUInt8 = x := by simp [Nat.toUInt8]
        rw [hx]
        simp only [List.cons_append, List.append_assoc]
      · rw [e4]
        unfold encEv
        simp only [dif_of i1, dif_of i2, dif_of i3, dif_of i4]
        rw [List.length_cons, List.length_append, List.length_append, List.length_append]
        omega
    · rw [if_neg h4] at h
      exact absurd h h4

/- ## Frames -/
def encEvs : Ev → List Ev → List UInt8
  | _, [] => []
  | p, e :: r => encEv p e ++ encEvs e r
def lastEv : Ev → List Ev → Ev
  | p, [] => p
  | _, e :: r => lastEv e r
theorem encEvs_snoc : ∀ (l : List Ev) (p e : Ev), encEvs p (l ++ [e]) = encEvs p l ++ encEv (lastEv p l) e
  | [], p, e => by simp [encEvs, lastEv]
  | x :: l, p, e => by
    show encEv p x ++ encEvs x (l ++ [e]) = (encEv p x ++ encEvs x l) ++ _
    rw [encEvs_snoc l x e, List.append_assoc]
    rfl
theorem lastEv_snoc : ∀ (l : List Ev) (p e : Ev), lastEv p (l ++ [e]) = e
  | [], _, _ => rfl
  | x :: l, _, e => lastEv_snoc l x e
theorem encEvs_most : ∀ (l : List Ev) (p : Ev), (encEvs p l).length ≤ 41 * l.length
  | [], _ => by simp [encEvs]
  | x :: l, p => by
    have h1 := encEv_most p x
    have h2 := encEvs_most l x
    show (encEv p x ++ encEvs x l).length ≤ 41 * (l.length + 1)
    rw [List.length_append]
    omega
theorem encEvs_least : ∀ (l : List Ev) (p : Ev), 5 * l.length ≤ (encEvs p l).length
  | [], _ => by simp [encEvs]
  | x :: l, p => by
    have h1 := encEv_least p x
    have h2 := encEvs_least l x
    show 5 * (l.length + 1) ≤ (encEv p x ++ encEvs x l).length
    rw [List.length_append]
    omega
theorem encEvs_front : ∀ (l m : List Ev) (p : Ev) (r s : List UInt8), (∀ x ∈ l, x.ok) → (∀ x ∈ m, x.ok) → l.length = m.length → encEvs p l ++ r = encEvs p m ++ s → l = m ∧ r = s
  | [], [], _, _, _, _, _, _, h => ⟨rfl, h⟩
  | [], _ :: _, _, _, _, _, _, h, _ => by simp at h
  | _ :: _, [], _, _, _, _, _, h, _ => by simp at h
  | x :: l, y :: m, p, r, s, hl, hm, hn, h => by
    have h' : encEv p x ++ (encEvs x l ++ r) = encEv p y ++ (encEvs y m ++ s) := by
      rw [← List.append_assoc, ← List.append_assoc]; exact h
    obtain ⟨rfl, h2⟩ := encEv_front (hl x (by simp)) (hm y (by simp)) h'
    obtain ⟨rfl, h3⟩ := encEvs_front l m x r s (fun z hz => hl z (by simp [hz])) (fun z hz => hm z (by simp [hz])) (by simpa using hn) h2
    exact ⟨rfl, h3⟩

def bodyOf (es : List Ev) : List UInt8 := uvarint es.length ++ encEvs Ev.zero es
def frameOf (es : List Ev) : List UInt8 := uvarint (bodyOf es).length ++ sealed (bodyOf es)
theorem bodyOf_most {es : List Ev} (h : es.length ≤ 4096) : (bodyOf es).length ≤ 170000 := by
  have h1 := encEvs_most es Ev.zero
  have h2 := Lib.uvarint_length64 (x := es.length) (by omega)
  unfold bodyOf
  rw [List.length_append]
  omega
/-- what a frame's body is of -/
structure Evs (es : List Ev) : Prop where
  some_ : 1 ≤ es.length
  most : es.length ≤ 4096
  ok : ∀ x ∈ es, x.ok
theorem bodyOf_inj {l m : List Ev} (hl : Evs l) (hm : Evs m) (h : bodyOf l = bodyOf m) : l = m := by
  unfold bodyOf at h
  have a := hl.most; have b := hm.most
  obtain ⟨h1, h2⟩ := uvarint_front (by omega) (by omega) h
  exact (encEvs_front l m Ev.zero [] [] hl.ok hm.ok h1 (by rw [List.append_nil, List.append_nil]; exact h2)).1

def readEvs : Nat → Ev → List UInt8 → Nat → Option (List Ev × Nat)
  | 0, _, _, k => some ([], k)
  | n + 1, p, l, k => if (getEv p l k).2.2 = 0 then (readEvs n (getEv p l k).1 l (getEv p l k).2.1).map fun r => ((getEv p l k).1 :: r.1, r.2) else none
def evsOf (m : List UInt8) : Option (List Ev) :=
  if (getU m).2.2 ≠ 0 ∨ (getU m).1 = 0 ∨ 4096 < (getU m).1 then none
  else match readEvs (getU m).1 Ev.zero m (getU m).2.1 with
    | some r => if r.2 = m.length then some r.1 else none
    | none => none
theorem readEvs_enc : ∀ (es : List Ev) (p : Ev) (l r : List UInt8) (k : Nat), (∀ x ∈ es, x.ok) → l.drop k = encEvs p es ++ r → readEvs es.length p l k = some (es, k + (encEvs p es).length)
  | [], _, _, _, _, _, _ => rfl
  | e :: es, p, l, r, k, ho, h => by
    have h' : l.drop k = encEv p e ++ (encEvs e es ++ r) := by rw [h, ← List.append_assoc]; rfl
    have hg := getEv_enc (ho e (by simp)) h'
    have hr := readEvs_enc es e l r (k + (encEv p e).length) (fun x hx => ho x (by simp [hx])) (drop_more h')
    rw [List.length_cons, readEvs, hg]
    simp only [if_pos, hr, Option.map_some]
    congr 2
    show _ = k + (encEv p e ++ encEvs e es).length
    rw [List.length_append]
    omega
theorem readEvs_sound : ∀ (n : Nat) (p : Ev) (l : List UInt8) (k : Nat) (es : List Ev) (j : Nat), readEvs n p l k = some (es, j) →
    es.length = n ∧ (∀ x ∈ es, x.ok) ∧ ∃ r, l.drop k = encEvs p es ++ r ∧ j = k + (encEvs p es).length
  | 0, p, l, k, es, j, h => by
    simp only [readEvs, Option.some.injEq, Prod.mk.injEq] at h
    obtain ⟨rfl, rfl⟩ := h
    exact ⟨rfl, (fun _ h => by cases h), l.drop k, rfl, rfl⟩
  | n + 1, p, l, k, es, j, h => by
    rw [readEvs] at h
    by_cases hg : (getEv p l k).2.2 = 0
    · rw [if_pos hg] at h
      obtain ⟨ho, r, hd, hn⟩ := getEv_sound hg
      generalize getEv p l k = q at h ho hd hn
      obtain ⟨e, m, f⟩ := q
      simp only at h ho hd hn
      cases hr : readEvs n e l m with
      | none => rw [hr] at h; cases h
      | some x =>
        obtain ⟨es', j'⟩ := x
        rw [hr] at h
        simp only [Option.map_some, Option.some.injEq, Prod.mk.injEq] at h
        obtain ⟨rfl, rfl⟩ := h
        obtain ⟨h1, h2, r2, h3, h4⟩ := readEvs_sound n e l m es' j' hr
        refine ⟨by rw [List.length_cons, h1], fun x hx => ?_, r2, ?_, ?_⟩
        · rcases List.mem_cons.1 hx with rfl | hx
          · exact ho
          · exact h2 x hx
        · rw [hd]
          have : r = l.drop m := by rw [hn]; exact (drop_more hd).symm
          rw [this, h3, ← List.append_assoc]
          rfl
        · rw [h4, hn]
          show _ = k + (encEv p e ++ encEvs e es').length
          rw [List.length_append]
          omega
    · rw [if_neg hg] at h
      cases h
theorem evsOf_body {es : List Ev} (h : Evs es) : evsOf (bodyOf es) = some es := by
  have hg := getU_uvarint (x := es.length) (encEvs Ev.zero es) (by have := h.most; omega)
  have hb : getU (bodyOf es) = _ := hg
  have hr := readEvs_enc es Ev.zero (bodyOf es) [] (uvarint es.length).length h.ok (by unfold bodyOf; rw [List.drop_left, List.append_nil])
  have h1 := h.some_
  have h2 := h.most
  unfold evsOf
  rw [hb]
  simp only
  rw [if_neg (by omega), hr]
  simp only
  rw [if_pos (by unfold bodyOf; rw [List.length_append])]
theorem evsOf_sound {m : List UInt8} {es : List Ev} (h : evsOf m = some es) : Evs es ∧ m = bodyOf es := by
  unfold evsOf at h
  by_cases hc : (getU m).2.2 ≠ 0 ∨ (getU m).1 = 0 ∨ 4096 < (getU m).1
  · rw [if_pos hc] at h; cases h
  · rw [if_neg hc] at h
    generalize hq : getU m = q at h hc
    obtain ⟨v, j, f⟩ := q
    simp only at h hc
    have hf : f = 0 := by omega
    subst hf
    obtain ⟨r, h1, h2⟩ := getU_sound hq
    cases hr : readEvs v Ev.zero m j with
    | none => rw [hr] at h; cases h
    | some x =>
      obtain ⟨es', k⟩ := x
      rw [hr] at h
      simp only at h
      by_cases hk : k = m.length
      · rw [if_pos hk] at h
        obtain rfl := Option.some.inj h
        obtain ⟨g1, g2, r2, g3, g4⟩ := readEvs_sound v Ev.zero m j es' k hr
        refine ⟨⟨by omega, by omega, g2⟩, ?_⟩
        have hr0 : r = m.drop j := by rw [h2]; exact (drop_more (k := 0) h1).symm.trans (by rw [Nat.zero_add])
        have hr2 : r2 = [] := by
          have e1 := congrArg List.length g3
          rw [List.length_drop, List.length_append] at e1
          have e2 := congrArg List.length h1
          rw [List.length_append, ← h2] at e2
          exact List.eq_nil_of_length_eq_zero (by omega)
        rw [h1, hr0, g3, hr2, List.append_nil, ← g1]
        rfl
      · rw [if_neg hk] at h; cases h

/-- the events of the frame at a place k that there is, the place behind it, the error -/
def rdFrame (l : List UInt8) (k : Nat) : List Ev × Nat × Nat :=
  if (getU (l.drop k)).2.2 ≠ 0 then ([], 0, (getU (l.drop k)).2.2)
  else if 262144 < (getU (l.drop k)).1 then ([], 0, 3)
  else if l.length < k + (getU (l.drop k)).2.1 + (getU (l.drop k)).1 + 4 then ([], 0, 11)
  else if (l.drop (k + (getU (l.drop k)).2.1 + (getU (l.drop k)).1)).take 4 ≠ sumBytes (crc ((l.drop (k + (getU (l.drop k)).2.1)).take (getU (l.drop k)).1)) then ([], 0, 12)
  else match evsOf ((l.drop (k + (getU (l.drop k)).2.1)).take (getU (l.drop k)).1) with
    | none => ([], 0, 10)
    | some es => (es, k + (getU (l.drop k)).2.1 + (getU (l.drop k)).1 + 4, 0)
theorem rd_head {l r : List UInt8} {k n : Nat} (hn : n ≤ 262144) (h : l.drop k = uvarint n ++ r) : getU (l.drop k) = (n, (uvarint n).length, 0) := by
  rw [h]; exact getU_uvarint r (by omega)
theorem frameOf_length (es : List Ev) : (frameOf es).length = (uvarint (bodyOf es).length).length + (bodyOf es).length + 4 := by
  unfold frameOf sealed
  rw [List.length_append, List.length_append, sumBytes_length]
  omega
theorem rdFrame_frame {es : List Ev} {l r : List UInt8} {k : Nat} (he : Evs es) (h : l.drop k = frameOf es ++ r) : rdFrame l k = (es, k + (frameOf es).length, 0) := by
  have hm := bodyOf_most he.most
  have h' : l.drop k = uvarint (bodyOf es).length ++ (bodyOf es ++ (sumBytes (crc (bodyOf es)) ++ r)) := by
    rw [h]; unfold frameOf sealed; simp only [List.append_assoc]
  have hg := rd_head (by omega) h'
  have hl := congrArg List.length h
  rw [List.length_drop, List.length_append, frameOf_length] at hl
  have h2 := drop_more h'
  have h3 := drop_more h2
  have e3 : (l.drop (k + (uvarint (bodyOf es).length).length + (bodyOf es).length)).take 4 = sumBytes (crc (bodyOf es)) := by
    rw [h3, List.take_append_of_le_length (by rw [sumBytes_length]; omega), List.take_of_length_le (by rw [sumBytes_length]; omega)]
  unfold rdFrame
  rw [hg]
  simp only
  have e2 : (l.drop (k + (uvarint (bodyOf es).length).length)).take (bodyOf es).length = bodyOf es := by
    rw [h2, List.take_left]
  have hk : k + ((uvarint (bodyOf es).length).length + (bodyOf es).length + 4) ≤ l.length := by
    have := Lib.uvarint_pos (bodyOf es).length
    omega
  rw [e2, if_neg (by simp), if_neg (by omega), if_neg (by omega), e3, if_neg (by simp), evsOf_body he, frameOf_length]
  simp only [Nat.add_assoc]
theorem rdFrame_sound {l : List UInt8} {k : Nat} (h : (rdFrame l k).2.2 = 0) :
    Evs (rdFrame l k).1 ∧ ∃ r, l.drop k = frameOf (rdFrame l k).1 ++ r ∧ (rdFrame l k).2.1 = k + (frameOf (rdFrame l k).1).length := by
  generalize hq : getU (l.drop k) = q
  obtain ⟨v, j, f⟩ := q
  unfold rdFrame at h ⊢
  rw [hq] at h ⊢
  simp only at h ⊢
  by_cases c1 : f = 0
  · subst c1
    rw [if_neg (by simp)] at h ⊢
    by_cases c2 : 262144 < v
    · rw [if_pos c2] at h; simp at h
    · rw [if_neg c2] at h ⊢
      by_cases c3 : l.length < k + j + v + 4
      · rw [if_pos c3] at h; simp at h
      · rw [if_neg c3] at h ⊢
        by_cases c4 : (l.drop (k + j + v)).take 4 = sumBytes (crc ((l.drop (k + j)).take v))
        · rw [if_neg (by simp [c4])] at h ⊢
          cases c5 : evsOf ((l.drop (k + j)).take v) with
          | none => rw [c5] at h; simp at h
          | some es =>
            simp only
            obtain ⟨he, hm⟩ := evsOf_sound c5
            obtain ⟨r, h1, h2⟩ := getU_sound hq
            have hv : v = (bodyOf es).length := by rw [← hm, List.length_take, List.length_drop]; omega
            have d1 : l.drop (k + j) = r := by rw [h2]; exact drop_more h1
            have d2 : r = bodyOf es ++ (sumBytes (crc (bodyOf es)) ++ l.drop (k + j + v + 4)) := by
              rw [← d1, ← hm, ← c4]
              have t1 : l.drop (k + j) = (l.drop (k + j)).take v ++ l.drop (k + j + v) := by
                conv => lhs; rw [← List.take_append_drop v (l.drop (k + j)), List.drop_drop]
              have t2 : l.drop (k + j + v) = (l.drop (k + j + v)).take 4 ++ l.drop (k + j + v + 4) := by
                conv => lhs; rw [← List.take_append_drop 4 (l.drop (k + j + v)), List.drop_drop]
              rw [← t2]; exact t1
            refine ⟨he, l.drop (k + j + v + 4), ?_, ?_⟩
            · rw [h1, d2, hv]
              unfold frameOf sealed
              simp only [List.append_assoc]
            · rw [frameOf_length, ← hv, ← h2]
              omega
        · rw [if_pos c4] at h; simp at h
  · rw [if_pos c1] at h
    exact absurd h c1
end Go.Proofs.Ytiockkphciadeaa
