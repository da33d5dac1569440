/-
  EventTurned: if up to four bytes of a frame's body, next to each other, are others, it is refused: ErrSum.
-/
import Derived.Test.YtiockkphciadeaaKEvAwake
import Derived.Test.YtiockkphciadeaaK2
import Derived.Test.YtiockkphciadeaaK4
set_option linter.unusedVariables false
set_option linter.unusedSimpArgs false
namespace Go.Proofs.Ytiockkphciadeaa
open Go.RowKit
open Go.Lib (byteCells byteCells_length byteCells_append uvarint)

theorem u8_xor_bytes (x u : UInt8) : bits .xor .u8 (x.toNat : Int) (u.toNat : Int) = ((x ^^^ u).toNat : Int) := by
  have h1 := x.toNat_lt
  have h2 := u.toNat_lt
  rw [toNat_xor8]
  show IntKind.u8.wrap ((BitVec.ofInt 8 (x.toNat : Int) ^^^ BitVec.ofInt 8 (u.toNat : Int)).toNat : Int) = _
  rw [BitVec.toNat_xor, BitVec.ofInt_natCast, BitVec.ofInt_natCast, BitVec.toNat_ofNat, BitVec.toNat_ofNat, Nat.mod_eq_of_lt h1, Nat.mod_eq_of_lt h2, IntKind.wrap_u8']
  have := Nat.xor_lt_two_pow (n := 8) h1 h2
  omega
def chgOf (t : List UInt8) (i : Nat) : Bool := (t.take i).any (fun u => u != 0)
theorem chgOf_step {t : List UInt8} {i : Nat} {u : UInt8} (hu : t[i]? = some u) : chgOf t (i + 1) = (chgOf t i || (u != 0)) := by
  obtain ⟨hi, e⟩ := List.getElem?_eq_some_iff.1 hu
  unfold chgOf
  rw [List.take_succ_eq_append_getElem hi, List.any_append, e]
  simp
theorem chgOf_false {t : List UInt8} {i : Nat} (h : chgOf t i = false) : ∀ u ∈ t.take i, u = 0 := by
  intro u hu
  unfold chgOf at h
  rw [List.any_eq_false] at h
  have := h u hu
  simpa using this
theorem chgOf_true {t : List UInt8} {i : Nat} (h : chgOf t i = true) : ¬ ∀ u ∈ t.take i, u = 0 := by
  intro hall
  unfold chgOf at h
  rw [List.any_eq_true] at h
  obtain ⟨u, hu, hne⟩ := h
  rw [hall u hu] at hne
  simp at hne
theorem bne_byte (u : UInt8) : ((u.toNat : Int) != 0) = (u != 0) := by
  by_cases h : u = 0
  · subst h; rfl
  · have h1 : u.toNat ≠ 0 := fun e => h (UInt8.toNat_inj.1 e)
    rw [bne_iff_ne.2 (by omega), bne_iff_ne.2 h]

theorem turned_cell {wr : World} {g cg k m a i : Nat} {b t : List UInt8} (hMr : Mine wr g 5 cg (frameAs b (turned_ b a i t))) (hbu : (uvarint b.length).length = k + 1) (hbm : b.length = m) (ham : a + i < m) :
    ∃ x, (turned_ b a i t)[a + i]? = some x ∧ wr.cell? ⟨g, k + 1 + a + i, none⟩ = some (.int .u8 (x.toNat : Int)) := by
  have hlt : a + i < (turned_ b a i t).length := by rw [turned_length, hbm]; exact ham
  have hx : (turned_ b a i t)[a + i]? = some (turned_ b a i t)[a + i] := List.getElem?_eq_getElem hlt
  refine ⟨_, hx, ?_⟩
  have h2 := frameAs_get (b := b) (b' := turned_ b a i t) (k := a + i) hx
  rw [hbu, ← Nat.add_assoc] at h2
  exact Mine.cell hMr h2
theorem turned_put {wr : World} {g cg k m a i : Nat} {b t : List UInt8} {x u : UInt8} (hMr : Mine wr g 5 cg (frameAs b (turned_ b a i t))) (hbu : (uvarint b.length).length = k + 1) (hbm : b.length = m) (ham : a + i < m)
    (hx : (turned_ b a i t)[a + i]? = some x) (hu : t[i]? = some u) :
    Mine (wr.setCell ⟨g, k + 1 + a + i, none⟩ (.int .u8 (bits .xor .u8 (x.toNat : Int) (u.toNat : Int)))) g 5 cg (frameAs b (turned_ b a (i + 1) t)) := by
  have hp := hMr.put (k + 1 + a + i) (x ^^^ u) _ (u8_xor_bytes x u).symm
  have e := frameAs_set (b := b) (b' := turned_ b a i t) (a + i) (x ^^^ u) (by rw [turned_length, hbm]; exact ham)
  rw [hbu, ← Nat.add_assoc, turned_step hx hu] at e
  rw [e] at hp
  exact hp
theorem four_at {t : List UInt8} {u0 u1 u2 u3 : UInt8} (ht : t = [u0, u1, u2, u3]) (i : Nat) (x : UInt8) (hx : t[i]? = some x) :
    (#[Value.int .u8 (u0.toNat : Int), .int .u8 (u1.toNat : Int), .int .u8 (u2.toNat : Int), .int .u8 (u3.toNat : Int)] : Array Value)[i]? = some (Value.int .u8 (x.toNat : Int)) := by
  rw [ht] at hx
  match i, hx with
  | 0, hx => simp at hx; subst hx; rfl
  | 1, hx => simp at hx; subst hx; rfl
  | 2, hx => simp at hx; subst hx; rfl
  | 3, hx => simp at hx; subst hx; rfl

theorem sum_small {a i m : Nat} (h : a + i ≤ m) (hm : m ≤ 170000) : wrap64 ((a : Int) + (i : Int)) = (a : Int) + (i : Int) := by unfold wrap64; omega
theorem sameev_self {w : World} {A : Option Addr} {n c : Nat} {l : List Ev} {B : Option Addr} {m d : Nat} (h1 : IsEv w A n c l) (h2 : IsEv w B m d l) (hn : n ≤ 1000000) (hm : m ≤ 1000000) :
    Calls Try.prog 47 #[.slice A n c, .slice B m d] w fun e w' => e = .returned (.bool true) ∧ Below w.heap.size w w' := by
  have := sameev_any h1 h2 hn hm
  rwa [decide_eq_true rfl] at this
theorem turn_arith {k m a i : Nat} (hi : i < 4) (ham : a + i < m) (hm : m ≤ 170000) (hk : k + 1 ≤ 10) :
    decide ((i : Int) < 4) = true ∧ decide ((a : Int) + (i : Int) < (m : Int)) = true ∧ IntKind.i64.wrap ((k : Int) + 1 + (a : Int)) = (k : Int) + 1 + (a : Int) ∧ IntKind.i64.wrap ((k : Int) + 1 + (a : Int) + (i : Int)) = (k : Int) + 1 + (a : Int) + (i : Int) ∧
    0 ≤ (k : Int) + 1 + (a : Int) + (i : Int) ∧ (k : Int) + 1 + (a : Int) + (i : Int) < (k : Int) + 1 + (m : Int) + 4 ∧ ((k : Int) + 1 + (a : Int) + (i : Int)).toNat = k + 1 + a + i ∧ (i : Int) < 4 ∧ (0 : Int) ≤ (i : Int) :=
  ⟨decide_eq_true (by omega), decide_eq_true (by omega), IntWalk.i64_in _ (by omega), IntWalk.i64_in _ (by omega), by omega, by omega, by omega, by omega, by omega⟩

end Go.Proofs.Ytiockkphciadeaa

/-
  EventBack: what is put is got; what is framed is read, and what is read, framed again, is the same bytes.
-/
set_option linter.unusedVariables false
set_option linter.unusedSimpArgs false
namespace Go.Proofs.Ytiockkphciadeaa
open Go.RowKit
open Go.Lib (byteCells byteCells_length byteCells_append uvarint)

theorem Read_at0 {w : World} {A : Option Addr} {n c : Nat} {l : List UInt8} (h : IsB w A n c l) (hn : n ≤ 1000000) :
    Calls Try.prog 32 #[.slice A n c, .int .i64 0] w fun e w' => (∃ B m d, e = .returned (.tuple #[.slice B m d, .int .i64 ((rdFrame l 0).2.1 : Int), .int .i64 ((rdFrame l 0).2.2 : Int)]) ∧ OwnE w' w.heap.size (.slice B m d) (rdFrame l 0).1 ∧ m = (rdFrame l 0).1.length) ∧ Below w.heap.size w w' :=
  Read_lit h hn rfl
theorem IsB.take' {w : World} {A : Option Addr} {m c : Nat} {l : List UInt8} (h : IsB w A m c l) {n : Nat} (hn : n ≤ m) : IsB w A n c (l.take n) := by
  refine ⟨by rw [List.length_take, h.len]; omega, Nat.le_trans hn h.cap, h.none_, ?_⟩
  rcases h.src with h0 | ⟨b, o, hA, hc⟩
  · exact .inl (by rw [h0, List.take_nil])
  · refine .inr ⟨b, o, hA, fun j u hj => hc j u ?_⟩
    have hj' := (List.getElem?_eq_some_iff.1 hj).1
    rw [List.length_take] at hj'
    rwa [List.getElem?_take_of_lt (by omega)] at hj
theorem IsB.awayF {F : Nat → Prop} {w w' : World} {A : Option Addr} {n c : Nat} {l : List UInt8} (h : IsB w A n c l) (ha : Away F w w') (hf : ∀ ad, A = some ad → ¬ F ad.block) : IsB w' A n c l := by
  refine ⟨h.len, h.cap, h.none_, ?_⟩
  rcases h.src with h0 | ⟨b, o, hA, hc⟩
  · exact .inl h0
  · refine .inr ⟨b, o, hA, fun j u hj => ?_⟩
    have hx := hc j u hj
    exact (World.cell?_of_block (ha.block b (block_lt_of_cell hx) (hf _ hA))).trans hx
theorem own_at {w : World} {base : Nat} {v : Value} {l : List UInt8} (h : Own w base 5 v l) : ∃ A m c, v = .slice A m c ∧ IsB w A m c l ∧ ∀ ad, A = some ad → base ≤ ad.block := by
  obtain ⟨A, c, rfl, hS⟩ := h.spare
  refine ⟨A, _, c, rfl, hS.is_, fun ad hA => ?_⟩
  rcases hS.at_ with ⟨h0, _⟩ | ⟨g, hg, hb, _⟩
  · rw [h0] at hA; cases hA
  · rw [hg] at hA; cases hA; exact hb
theorem Read_frame {w : World} {A : Option Addr} {n c k N : Nat} {L pre post : List UInt8} {es : List Ev} (hI : IsB w A n c L) (hL : L = pre ++ (frameOf es ++ post)) (he : Evs es) (hn : n ≤ 1000000) (hk : pre.length = k) (hN : N = (frameOf es).length) :
    Calls Try.prog 32 #[.slice A n c, .int .i64 (k : Int)] w fun e w' => (∃ B q d, e = .returned (.tuple #[.slice B q d, .int .i64 ((k : Int) + (N : Int)), .int .i64 0]) ∧ OwnE w' w.heap.size (.slice B q d) es ∧ q = es.length) ∧ Below w.heap.size w w' := by
  subst hk
  have hd : L.drop pre.length = frameOf es ++ post := by rw [hL, List.drop_left]
  have hr := rdFrame_frame he hd
  have hle : pre.length ≤ n := by rw [← hI.len, hL, List.length_append]; omega
  refine (Read_any A n c pre.length L w hI hn hle).mono ?_
  rintro e w' ⟨⟨v, he', ho⟩, hb⟩
  rw [hr] at he' ho
  obtain ⟨B, q, d, rfl, _, hq, _⟩ := ho.is_
  refine ⟨⟨B, q, d, ?_, ho, hq⟩, hb⟩
  rw [he', hN]
  rfl
theorem sameev_not {w : World} {A : Option Addr} {n c : Nat} {l : List Ev} {B : Option Addr} {m d : Nat} {k : List Ev} (h1 : IsEv w A n c l) (h2 : IsEv w B m d k) (hn : n ≤ 1000000) (hm : m ≤ 1000000) (hne : l ≠ k) :
    Calls Try.prog 47 #[.slice A n c, .slice B m d] w fun e w' => e = .returned (.bool false) ∧ Below w.heap.size w w' := by
  have := sameev_any h1 h2 hn hm
  rwa [decide_eq_false hne] at this
theorem same_self {w : World} {A : Option Addr} {n c : Nat} {l : List UInt8} {B : Option Addr} {m d : Nat} {k : List UInt8} (h1 : IsB w A n c l) (h2 : IsB w B m d k) (e : k = l) :
    Calls Try.prog 27 #[.slice A n c, .slice B m d] w fun e w' => e = .returned (.bool true) ∧ w = w' := by
  subst e
  have := samebytes_any h1 h2
  rwa [decide_eq_true rfl] at this

end Go.Proofs.Ytiockkphciadeaa

/-
  Frames one behind the other: plain facts, and the numbers and rows of EventRow in memory.
-/
set_option linter.unusedVariables false
namespace Go.Proofs.Ytiockkphciadeaa
open Go.RowKit
open Go.Lib (byteCells byteCells_length byteCells_append uvarint)

def bytesF : List Ev → List UInt8
  | [] => []
  | x :: r => frameOf (x :: r)
def rowF : List (List Ev) → List UInt8
  | [] => []
  | f :: r => bytesF f ++ rowF r
def cntF : List (List Ev) → Nat
  | [] => 0
  | f :: r => (if f.length = 0 then 0 else 1) + cntF r
theorem rowF_append : ∀ (a b : List (List Ev)), rowF (a ++ b) = rowF a ++ rowF b
  | [], b => rfl
  | f :: a, b => by
    show bytesF f ++ rowF (a ++ b) = (bytesF f ++ rowF a) ++ rowF b
    rw [rowF_append a b, List.append_assoc]
theorem cntF_append : ∀ (a b : List (List Ev)), cntF (a ++ b) = cntF a + cntF b
  | [], b => by simp [cntF]
  | f :: a, b => by
    show (if f.length = 0 then 0 else 1) + cntF (a ++ b) = ((if f.length = 0 then 0 else 1) + cntF a) + cntF b
    rw [cntF_append a b, Nat.add_assoc]
theorem take_one {α : Type} {l : List α} {j : Nat} {x : α} (hx : l[j]? = some x) : l.take (j + 1) = l.take j ++ [x] := by
  obtain ⟨hj, ex⟩ := List.getElem?_eq_some_iff.1 hx
  rw [List.take_succ_eq_append_getElem hj, ex]
theorem rowF_step {fs : List (List Ev)} {j : Nat} {f : List Ev} (hx : fs[j]? = some f) : rowF (fs.take (j + 1)) = rowF (fs.take j) ++ bytesF f := by
  rw [take_one hx, rowF_append]
  simp [rowF]
theorem cntF_step {fs : List (List Ev)} {j : Nat} {f : List Ev} (hx : fs[j]? = some f) : cntF (fs.take (j + 1)) = cntF (fs.take j) + (if f.length = 0 then 0 else 1) := by
  rw [take_one hx, cntF_append]
  simp [cntF]
theorem cntF_mono (fs : List (List Ev)) {i j : Nat} (h : i ≤ j) : cntF (fs.take i) ≤ cntF (fs.take j) := by
  have e : fs.take j = fs.take i ++ (fs.take j).drop i := by
    conv => lhs; rw [← List.take_append_drop i (fs.take j), List.take_take, Nat.min_eq_left h]
  rw [e, cntF_append]
  omega
theorem bytesF_some {f : List Ev} (h : 1 ≤ f.length) : bytesF f = frameOf f := by
  cases f with
  | nil => simp at h
  | cons x r => rfl
theorem frame_small {f : List Ev} (h : f.length ≤ 30) : (bytesF f).length ≤ 1300 := by
  cases f with
  | nil => simp [bytesF]
  | cons x r =>
    show (frameOf (x :: r)).length ≤ 1300
    have h1 := encEvs_most (x :: r) Ev.zero
    have h2 := Lib.uvarint_length64 (x := (x :: r).length) (by omega)
    have h3 : (bodyOf (x :: r)).length ≤ 1240 := by
      unfold bodyOf; rw [List.length_append]; omega
    have h4 := Lib.uvarint_length64 (x := (bodyOf (x :: r)).length) (by omega)
    rw [frameOf_length]
    omega
theorem rowF_most : ∀ (fs : List (List Ev)), (∀ f ∈ fs, f.length ≤ 30) → (rowF fs).length ≤ 1300 * fs.length
  | [], _ => by simp [rowF]
  | f :: r, h => by
    have h1 := frame_small (h f (by simp))
    have h2 := rowF_most r fun g hg => h g (by simp [hg])
    show (bytesF f ++ rowF r).length ≤ 1300 * (r.length + 1)
    rw [List.length_append]
    omega
/-- where the frames end -/
def EndsOK (fs : List (List Ev)) (j : Nat) (E : List Nat) : Prop := E.length = cntF (fs.take j) + 1 ∧ ∀ i, i ≤ j → E[cntF (fs.take i)]? = some (rowF (fs.take i)).length
theorem ends_start (fs : List (List Ev)) : EndsOK fs 0 [0] := ⟨rfl, fun i hi => by
  obtain rfl : i = 0 := by omega
  simp [cntF, rowF]⟩
theorem ends_none {fs : List (List Ev)} {j : Nat} {f : List Ev} {E : List Nat} (h : EndsOK fs j E) (hx : fs[j]? = some f) (hf : f.length = 0) : EndsOK fs (j + 1) E := by
  have hr := rowF_step hx
  have hc := cntF_step hx
  obtain rfl : f = [] := List.eq_nil_of_length_eq_zero hf
  have hr' : rowF (fs.take (j + 1)) = rowF (fs.take j) := by rw [hr]; simp [bytesF]
  have hc' : cntF (fs.take (j + 1)) = cntF (fs.take j) := by rw [hc]; simp
  refine ⟨by rw [hc']; exact h.1, fun i hi => ?_⟩
  by_cases e : i = j + 1
  · subst e; rw [hc', hr']; exact h.2 j (Nat.le_refl _)
  · exact h.2 i (by omega)
theorem ends_some {fs : List (List Ev)} {j : Nat} {f : List Ev} {E : List Nat} (h : EndsOK fs j E) (hx : fs[j]? = some f) (hf : 1 ≤ f.length) : EndsOK fs (j + 1) (E ++ [(rowF (fs.take (j + 1))).length]) := by
  have hc := cntF_step hx
  rw [if_neg (by omega)] at hc
  refine ⟨by rw [List.length_append, h.1, hc]; rfl, fun i hi => ?_⟩
  by_cases e : i = j + 1
  · subst e
    rw [hc, List.getElem?_append_right (by rw [h.1]; omega), h.1, Nat.sub_self]
    rfl
  · have := cntF_mono fs (show i ≤ j by omega)
    rw [List.getElem?_append_left (by rw [h.1]; omega)]
    exact h.2 i (by omega)
theorem row_split {fs : List (List Ev)} {j : Nat} {f : List Ev} (hx : fs[j]? = some f) (hf : 1 ≤ f.length) (t : List UInt8) : rowF fs ++ t = rowF (fs.take j) ++ (frameOf f ++ (rowF (fs.drop (j + 1)) ++ t)) := by
  obtain ⟨hj, ex⟩ := List.getElem?_eq_some_iff.1 hx
  conv => lhs; rw [← List.take_append_drop j fs, List.drop_eq_getElem_cons hj, ex, rowF_append]
  show (rowF (fs.take j) ++ (bytesF f ++ rowF (fs.drop (j + 1)))) ++ t = _
  rw [bytesF_some hf]
  simp only [List.append_assoc]
theorem row_cut {all : List UInt8} {a k : Nat} {f : List Ev} {post : List UInt8} (hd : all.drop a = frameOf f ++ post) (hf : Evs f) (hk : k ≤ all.length) (hak : a ≤ k) :
    (rdFrame (all.take k) a).2.2 = 0 ↔ a + (frameOf f).length ≤ k := by
  have hsp : all.drop a = (all.take k).drop a ++ all.drop k := by
    conv => lhs; rw [← List.take_append_drop k all]
    rw [List.drop_append_of_le_length (by rw [List.length_take]; omega)]
  constructor
  · intro h
    obtain ⟨hg, r, h1, _⟩ := rdFrame_sound h
    generalize (rdFrame (all.take k) a).1 = g at hg h1
    have h2 : all.drop a = frameOf g ++ (r ++ all.drop k) := by rw [hsp, h1, List.append_assoc]
    have e1 := rdFrame_frame hf hd
    have e2 := rdFrame_frame hg h2
    rw [e1] at e2
    have e3 : f = g := (Prod.mk.inj e2).1
    subst e3
    have hl := congrArg List.length h1
    rw [List.length_drop, List.length_take, List.length_append] at hl
    have := frameOf_length f
    omega
  · intro h
    have h3 : (all.take k).drop a = frameOf f ++ post.take (k - a - (frameOf f).length) := by
      rw [List.drop_take, hd, List.take_append, List.take_of_length_le (by omega)]
    rw [rdFrame_frame hf h3]

/- ## Numbers that the call puts together itself -/
def OwnI (w : World) (base : Nat) (v : Value) (E : List Nat) : Prop := w.ownsRow base 3 1 v E.length (E.map fun n : Nat => Value.int .i64 (n : Int))
theorem OwnI.type {w : World} {base : Nat} {v : Value} {E : List Nat} (h : OwnI w base v E) {b : Nat} (hb : v.ownBlock = some b) : ∃ cs, w.heap[b]? = some (.cells cs 3 (0, 0)) ∧ base ≤ b := by
  rcases h.2 with ⟨hv, _⟩ | ⟨g, cap, cur, hv, hbg, hg, hr⟩
  · rw [hv] at hb; cases hb
  · rw [hv] at hb
    have e : g = b := by injection hb
    subst e
    exact ⟨cur, hg, hbg⟩
theorem OwnI.away {F : Nat → Prop} {w w' : World} {base : Nat} {v : Value} {E : List Nat} (h : OwnI w base v E) (ha : Away F w w') (hf : ∀ b, v.ownBlock = some b → ¬ F b) : OwnI w' base v E := by
  refine ⟨h.1, ?_⟩
  rcases h.2 with hn | ⟨g, cap, cur, hv, hbg, hg, hr⟩
  · exact .inl hn
  · exact .inr ⟨g, cap, cur, hv, hbg, (ha.block g (Array.getElem?_eq_some_iff.1 hg).1 (hf g (by rw [hv]; rfl))).trans hg, hr⟩
theorem OwnI.below {w w' : World} {base : Nat} {v : Value} {E : List Nat} (h : OwnI w base v E) (hb : Below w.heap.size w w') : OwnI w' base v E :=
  h.away (Away.of_new hb (fun _ => False)) fun _ _ f => f
theorem OwnI.form {w : World} {base : Nat} {v : Value} {E : List Nat} (h : OwnI w base v E) : ∃ A c, v = .slice A E.length c ∧ E.length ≤ c := by
  rcases h.2 with ⟨hv, hn⟩ | ⟨g, cap, cur, hv, _, _, hnc, _⟩
  · exact ⟨none, 0, by rw [hv, hn], by omega⟩
  · exact ⟨_, cap, hv, hnc⟩
theorem OwnI.cell {w : World} {base : Nat} {A : Option Addr} {n c : Nat} {E : List Nat} (h : OwnI w base (.slice A n c) E) {i x : Nat} (hx : E[i]? = some x) : ∃ g, A = some ⟨g, 0, none⟩ ∧ w.cell? ⟨g, i, none⟩ = some (.int .i64 (x : Int)) := by
  have hi := (List.getElem?_eq_some_iff.1 hx).1
  have hrow := h
  rcases h.2 with ⟨hv, hn⟩ | ⟨g, cap, cur, hv, _⟩
  · omega
  · have hv' := hv
    simp only [Value.slice.injEq] at hv'
    refine ⟨g, hv'.1, ?_⟩
    rw [hv] at hrow
    have := World.ownsRow.cells (g := g) hrow rfl i (.int .i64 (x : Int)) (by rw [List.getElem?_map, hx]; rfl)
    simpa [Addr.add_lit] using this
theorem owni_one (w : World) (t : TypeId) (ht : t = 3) : OwnI (w.alloc (.cells #[.int .i64 0] t)) w.heap.size (.slice (some ⟨w.heap.size, 0, none⟩) 1 1) [0] := by
  subst ht
  exact ⟨rfl, .inr ⟨w.heap.size, 1, _, rfl, Nat.le_refl _, heap_alloc_new _ _, Nat.le_refl _, by unfold maxLen; omega, rfl, rfl⟩⟩
theorem infoInt : (Try.prog.info? 3).map (fun i => (i.zero, i.size, i.bytes)) = some (some (.int .i64 0), 1, 8) := by kernel_rfl
theorem oi_append {w : World} {base : Nat} {A : Option Addr} {n c : Nat} {E : List Nat} (h : OwnI w base (.slice A n c) E) (hb : base ≤ w.heap.size) (ty : TypeId) (x : Nat) {bb : Nat}
    (hc : w.heap[bb]? = some (.cells #[.int .i64 (x : Int)] 3 (0, 0))) (hl : E.length ≤ 100000) :
    ∃ v' w', (Builtin.append_ #[43, 43] ty #[.slice A n c, .slice (some ⟨bb, 0, none⟩) 1 1]).run Try.prog w = .ok v' w' ∧ ∃ A' c', v' = .slice A' (n + 1) c' ∧ OwnI w' base (.slice A' (n + 1) c') (E ++ [x]) ∧
      Away (fun b => (Value.slice A n c).ownBlock = some b) w w' := by
  obtain ⟨i0, h2, h3, h4, h5⟩ := info_parts infoInt
  have hc' : ∀ j u, [Value.int .i64 (x : Int)][j]? = some u → w.cell? ((⟨bb, 0, none⟩ : Addr).add j) = some u := by
    intro j u hj
    rw [Addr.add_lit, Nat.zero_add, cell_of_row w bb j _ _ _ hc]
    rw [← hj]
    simp
  have hn : n = E.length := by
    obtain ⟨A', c', hv, _⟩ := h.form
    simp only [Value.slice.injEq] at hv
    exact hv.2.1
  obtain ⟨v', w', hr, hown, hgr, _, hat⟩ := run_append_own_at (P := Try.prog) (w := w) base 43 ty 3 i0 (.int .i64 0) 1 8 Try.underlying43 h2 h3 h4 h5 rfl (by decide) (.slice A n c) E.length (E.map fun n : Nat => Value.int .i64 (n : Int)) h ⟨bb, 0, none⟩ 1 1 [.int .i64 (x : Int)] rfl
    hc' (fun u hu => by simp at hu; subst hu; rfl) (by unfold maxLen; omega) (by omega) hb
  have hown2 := hown
  rcases hown2.2 with ⟨_, hn'⟩ | ⟨g, cap, cur, rfl, _, _, _⟩
  · omega
  refine ⟨_, w', hr, _, cap, by rw [hn], ?_, Away.of_grown hgr⟩
  unfold OwnI
  rw [List.map_append, List.length_append, hn]
  exact hown

/-- a frame's events as they came in -/
structure FrC where
  B : Option Addr
  n : Nat
  c : Nat
  es : List Ev
structure FrC.ok (w : World) (x : FrC) : Prop where
  ev : IsEv w x.B x.n x.c x.es
  good : ∀ e ∈ x.es, e.ok
  most : x.c ≤ maxLen
end Go.Proofs.Ytiockkphciadeaa

/-
  EventRow: frames one behind the other are read one by one; cut anywhere, those that are whole are.
-/
set_option linter.unusedVariables false
set_option linter.unusedSimpArgs false
namespace Go.Proofs.Ytiockkphciadeaa
open Go.RowKit
open Go.Lib (byteCells byteCells_length byteCells_append uvarint)

theorem sl_same {r : Raw} {A : Option Addr} {n c : Nat} (h : r.sl = .slice A n c) : n = r.c.1.length := by
  unfold Raw.sl at h
  simp at h
  exact h.2.1.symm
theorem cntF_most : ∀ fs : List (List Ev), cntF fs ≤ fs.length
  | [] => Nat.le_refl _
  | f :: r => by
    have := cntF_most r
    show (if f.length = 0 then 0 else 1) + cntF r ≤ r.length + 1
    split <;> omega
theorem sl_isB {w : World} {r : Raw} {A : Option Addr} {n c : Nat} (h : FRow w r) (hA : r.sl = .slice A n c) : IsB w A n c r.c.1 := by
  unfold Raw.sl at hA
  simp at hA
  obtain ⟨h1, h2, h3⟩ := hA
  rw [← h1, ← h2, ← h3]
  exact h.isB
theorem cut_read {w : World} {A : Option Addr} {K c a N : Nat} {T post : List UInt8} {g : List Ev} (hIT : IsB w A K c (T.take K)) (hd : T.drop a = frameOf g ++ post) (hg : Evs g) (hK : K ≤ T.length) (hn : K ≤ 1000000) (hN : (frameOf g).length = N) :
    ∃ (nx f : Nat), Calls Try.prog 32 #[.slice A K c, .int .i64 (a : Int)] w (fun e w' => (∃ v, e = .returned (.tuple #[v, .int .i64 (nx : Int), .int .i64 (f : Int)])) ∧ Below w.heap.size w w') ∧ Hid (a ≤ K → (f = 0 ↔ a + N ≤ K)) := by
  by_cases haK : a ≤ K
  · have h1 := row_cut hd hg hK haK
    rw [hN] at h1
    have h2 := Read_any A K c a _ w hIT hn haK
    generalize rdFrame (T.take K) a = r at h1 h2
    refine ⟨r.2.1, r.2.2, ?_, fun _ => h1⟩
    refine h2.mono ?_
    rintro e w' ⟨⟨v, rfl, _⟩, hb⟩
    exact ⟨⟨v, rfl⟩, hb⟩
  · refine ⟨0, 2, ?_, fun h => absurd h haK⟩
    refine (Read_out A K c (a : Int) _ w hIT hn (.inr (by omega))).mono ?_
    rintro e w' ⟨⟨v, rfl, _⟩, hb⟩
    exact ⟨⟨v, rfl⟩, hb⟩
theorem pick_one (x : Int) (n : Nat) (w : World) (hn : n ≤ 1000000) (hx : In64 x) :
    Calls Try.prog 25 #[.int .i64 x, .int .i64 ((n : Int) + 1)] w fun e w' => e = .returned (.int .i64 (pickOf x (n + 1) : Int)) ∧ w = w' := by
  have := pick_any x (n + 1) w (by omega) hx
  rwa [show ((n + 1 : Nat) : Int) = (n : Int) + 1 by omega] at this

end Go.Proofs.Ytiockkphciadeaa
