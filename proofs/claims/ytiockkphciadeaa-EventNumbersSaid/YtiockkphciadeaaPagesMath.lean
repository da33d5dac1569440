/-
  Pages: entries laid out one behind the other; two pages of entries of the same kinds are the same bytes just if all entries are alike.
-/
import Derived.Test.YtiockkphciadeaaGet
namespace Go.Proofs.Ytiockkphciadeaa
open Go.Lib (uvarint)

theorem uvarint_front {a b : Nat} {r s : List UInt8} (ha : a < 18446744073709551616) (hb : b < 18446744073709551616) (h : uvarint a ++ r = uvarint b ++ s) : a = b ∧ r = s := by
  have h1 := getU_uvarint r ha
  rw [h, getU_uvarint s hb] at h1
  have e : a = b := (congrArg Prod.fst h1).symm
  subst e
  exact ⟨rfl, List.append_cancel_left h⟩

structure Ent where
  kind : Nat
  num : Nat
  str : List UInt8
/-- the number as one with a sign -/
def Ent.signed (x : Ent) : Int := IntKind.i64.wrap (x.num : Int)
def Ent.wf (x : Ent) : Prop := x.kind < 256 ∧ x.num < 18446744073709551616 ∧ x.str.length ≤ 100
def enc (x : Ent) : List UInt8 :=
  if x.kind % 3 = 0 then uvarint x.num else if x.kind % 3 = 1 then uvarint (Lib.zigzag x.signed) else uvarint x.str.length ++ x.str
def alike (x y : Ent) : Prop := if x.kind % 3 = 2 then x.str = y.str else x.num = y.num
def pageOf : List Ent → List UInt8
  | [] => []
  | x :: r => enc x ++ pageOf r
theorem pageOf_snoc (l : List Ent) (x : Ent) : pageOf (l ++ [x]) = pageOf l ++ enc x := by
  induction l with
  | nil => simp [pageOf]
  | cons y r ih => simp [pageOf, ih, List.append_assoc]
theorem signed_in (x : Ent) : -9223372036854775808 ≤ x.signed ∧ x.signed ≤ 9223372036854775807 := by
  unfold Ent.signed
  rw [IntKind.wrap_i64]; omega
theorem signed_inj {x y : Ent} (hx : x.num < 18446744073709551616) (hy : y.num < 18446744073709551616) (h : x.signed = y.signed) : x.num = y.num := by
  unfold Ent.signed at h
  rw [IntKind.wrap_i64, IntKind.wrap_i64] at h; omega
theorem enc_front {x y : Ent} {r s : List UInt8} (hk : x.kind = y.kind) (hx : x.wf) (hy : y.wf) (h : enc x ++ r = enc y ++ s) : alike x y ∧ r = s := by
  unfold enc at h
  unfold alike
  rw [← hk] at h
  by_cases h0 : x.kind % 3 = 0
  · rw [if_pos h0, if_pos h0] at h
    rw [if_neg (by omega)]
    exact uvarint_front hx.2.1 hy.2.1 h
  · rw [if_neg h0, if_neg h0] at h
    by_cases h1 : x.kind % 3 = 1
    · rw [if_pos h1, if_pos h1] at h
      rw [if_neg (by omega)]
      have sx := signed_in x
      have sy := signed_in y
      obtain ⟨e, hr⟩ := uvarint_front (Lib.zigzag_lt sx.1 sx.2) (Lib.zigzag_lt sy.1 sy.2) h
      refine ⟨signed_inj hx.2.1 hy.2.1 ?_, hr⟩
      have := congrArg Lib.unzigzag e
      rwa [unzigzag_zigzag, unzigzag_zigzag] at this
    · rw [if_neg h1, if_neg h1, List.append_assoc, List.append_assoc] at h
      rw [if_pos (by omega)]
      have lx := hx.2.2
      have ly := hy.2.2
      obtain ⟨e, hr⟩ := uvarint_front (by omega) (by omega) h
      exact List.append_inj hr e
def allAlike : List Ent → List Ent → Prop
  | [], [] => True
  | x :: l, y :: m => alike x y ∧ allAlike l m
  | _, _ => False
theorem page_inj : ∀ (l m : List Ent), l.map Ent.kind = m.map Ent.kind → (∀ x ∈ l, x.wf) → (∀ x ∈ m, x.wf) → pageOf l = pageOf m → allAlike l m
  | [], [], _, _, _, _ => trivial
  | [], _ :: _, hk, _, _, _ => by simp at hk
  | _ :: _, [], hk, _, _, _ => by simp at hk
  | x :: l, y :: m, hk, hl, hm, h => by
    simp only [List.map_cons, List.cons.injEq] at hk
    obtain ⟨ha, hr⟩ := enc_front hk.1 (hl x (List.mem_cons_self ..)) (hm y (List.mem_cons_self ..)) h
    exact And.intro ha (page_inj l m hk.2 (fun z hz => hl z (List.mem_cons_of_mem _ hz)) (fun z hz => hm z (List.mem_cons_of_mem _ hz)) hr)
theorem enc_same {x y : Ent} (hk : x.kind = y.kind) (h : alike x y) : enc x = enc y := by
  unfold enc
  unfold alike at h
  rw [← hk]
  by_cases h2 : x.kind % 3 = 2
  · rw [if_pos h2] at h
    rw [if_neg (by omega), if_neg (by omega), if_neg (by omega), if_neg (by omega), h]
  · rw [if_neg h2] at h
    have : x.signed = y.signed := by unfold Ent.signed; rw [h]
    by_cases h0 : x.kind % 3 = 0
    · rw [if_pos h0, if_pos h0, h]
    · rw [if_neg h0, if_neg h0, if_pos (by omega), if_pos (by omega), this]
theorem page_same : ∀ (l m : List Ent), l.map Ent.kind = m.map Ent.kind → allAlike l m → pageOf l = pageOf m
  | [], [], _, _ => rfl
  | [], _ :: _, _, h => h.elim
  | _ :: _, [], _, h => h.elim
  | x :: l, y :: m, hk, h => by
    obtain ⟨ha, hr⟩ := h
    simp only [List.map_cons, List.cons.injEq] at hk
    unfold pageOf
    rw [enc_same hk.1 ha, page_same l m hk.2 hr]
/-- no entry is long, so a page isn't -/
theorem enc_short {x : Ent} (hx : x.wf) : (enc x).length ≤ 110 := by
  have h2 := hx.2.2
  unfold enc
  split
  · have := Lib.uvarint_length64 hx.2.1; omega
  · split
    · have := Lib.uvarint_length64 (Lib.zigzag_lt (signed_in x).1 (signed_in x).2); omega
    · have := Lib.uvarint_length64 (x := x.str.length) (by omega)
      rw [List.length_append]; omega
theorem page_short : ∀ (l : List Ent), (∀ x ∈ l, x.wf) → (pageOf l).length ≤ 110 * l.length
  | [], _ => by simp [pageOf]
  | x :: l, h => by
    have h1 := enc_short (h x (List.mem_cons_self ..))
    have h2 := page_short l fun z hz => h z (List.mem_cons_of_mem _ hz)
    unfold pageOf
    rw [List.length_append, List.length_cons]; omega
end Go.Proofs.Ytiockkphciadeaa
