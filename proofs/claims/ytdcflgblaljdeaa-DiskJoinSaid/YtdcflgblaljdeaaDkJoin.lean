/-
  DiskJoin: bytes that are appended piece by piece are as bytes that are appended at once; a file that is renamed, and back, is as it was.
-/
import Derived.Test.YtdcflgblaljdeaaDkTwice
set_option linter.unusedVariables false
set_option linter.unusedSimpArgs false
namespace Go.Proofs.Ytdcflgblaljdeaa
open Go.RowKit Go.Maps
open Go.Lib (byteCells byteCells_length byteCells_append)

/-- bytes that the law put together itself -/
structure RB (w : World) (A : Option Addr) (n c : Nat) (l : List UInt8) : Prop where
  row : w.ownsRow 0 5 1 (.slice A n c) n (byteCells l)
  len : l.length = n
theorem RB.lt {w : World} {A : Option Addr} {n c : Nat} {l : List UInt8} (h : RB w A n c l) {ad : Addr} (hA : A = some ad) : ad.block < w.heap.size := by
  rcases h.row.2 with ⟨hv, _⟩ | ⟨g, cap, cur, hv, hb, hg, _⟩
  · rw [hA] at hv; simp at hv
  · rw [hA] at hv
    simp only [Value.slice.injEq, Option.some.injEq] at hv
    obtain ⟨rfl, _⟩ := hv
    exact (Array.getElem?_eq_some_iff.1 hg).1
theorem RB.away {w w' : World} {H : Nat → Prop} {A : Option Addr} {n c : Nat} {l : List UInt8} (h : RB w A n c l) (ha : Away H w w') (hn : ∀ ad, A = some ad → ¬ H ad.block) : RB w' A n c l := by
  refine ⟨⟨h.row.1, ?_⟩, h.len⟩
  rcases h.row.2 with hv | ⟨g, cap, cur, hv, hbg, hg, hr⟩
  · exact .inl hv
  · have hA : A = some ⟨g, 0, none⟩ := by simp only [Value.slice.injEq] at hv; exact hv.1
    exact .inr ⟨g, cap, cur, hv, hbg, (ha.block g (h.lt hA) (hn _ hA)).trans hg, hr⟩
theorem RB.isB {w : World} {A : Option Addr} {n c : Nat} {l : List UInt8} (h : RB w A n c l) : IsB w A n c l := by
  obtain ⟨hr, rfl⟩ := h
  obtain ⟨A', c', hv, hi, _⟩ := own_is (show Own w 0 5 (.slice A l.length c) l from hr)
  simp only [Value.slice.injEq] at hv
  obtain ⟨rfl, _, rfl⟩ := hv
  exact hi
theorem RB.nil (w : World) : RB w none 0 0 [] := ⟨World.ownsRow_nil w 0 _ 1, rfl⟩
theorem rb_append {w : World} {A : Option Addr} {n c : Nat} {l : List UInt8} (h : RB w A n c l) (ty : TypeId) {B : Option Addr} {m d : Nat} {news : List UInt8} (hB : IsB w B m d news) (hl : n + m ≤ 100000) :
    ∃ v' w', (Builtin.append_ #[26, 26] ty #[.slice A n c, .slice B m d]).run Try.prog w = .ok v' w' ∧ ∃ A' n' c', v' = .slice A' n' c' ∧ RB w' A' n' c' (l ++ news) ∧ Away (fun b => ∃ ad, A = some ad ∧ ad.block = b) w w' ∧
      (∀ ad', A' = some ad' → (∃ ad, A = some ad ∧ ad.block = ad'.block) ∨ w.heap.size ≤ ad'.block) := by
  obtain ⟨i0, h2, h3, h4, h5⟩ := info_parts infoU8
  obtain ⟨rfl, hcap, hnone, hsrc⟩ := hB
  cases B with
  | some ad =>
    obtain ⟨v', w', hr, hown, hgr, _, hat⟩ := run_append_own_at (P := Try.prog) (w := w) 0 26 ty 5 i0 (.int .u8 0) 1 1 Try.underlying26 h2 h3 h4 h5 rfl (by decide) (.slice A n c) n (byteCells l) h.row ad news.length d (byteCells news)
      (by rw [byteCells_length, Nat.mul_one]) (hsrc.cells ad rfl) (byteCells_one _) (by unfold maxLen; omega) (by omega) (Nat.zero_le _)
    rw [← byteCells_append] at hown
    have hag : Away (fun b => ∃ ad, A = some ad ∧ ad.block = b) w w' := (Away.of_grown hgr).mono fun b _ e => by
      cases A with
      | none => cases e
      | some ad => exact ⟨ad, rfl, Option.some.inj e⟩
    have hown2 := hown
    rcases hown2.2 with ⟨rfl, hn⟩ | ⟨g, cap, cur, rfl, _, _, _⟩
    · refine ⟨_, w', hr, none, 0, 0, rfl, ⟨by rw [hn] at hown; exact hown, by rw [List.length_append, h.len]; exact hn⟩, hag, fun _ e => by cases e⟩
    · refine ⟨_, w', hr, _, _, cap, rfl, ⟨hown, by rw [List.length_append, h.len]⟩, hag, fun ad' e => ?_⟩
      simp only [Option.some.injEq] at e
      subst e
      rcases hat with e | e
      · left
        cases A with
        | none => simp [Value.ownBlock] at e
        | some ad => exact ⟨ad, rfl, (Option.some.inj e).symm⟩
      · right
        have h1 := Option.some.inj e
        exact Nat.le_of_eq h1.symm
  | none =>
    obtain rfl : d = 0 := hnone rfl
    obtain rfl : news = [] := List.eq_nil_of_length_eq_zero (by omega)
    exact ⟨_, w, run_append_owned_none w 0 26 ty 5 i0 1 Try.underlying26 h2 (.slice A n c) n (byteCells l) h.row, A, n, c, rfl, by rw [List.append_nil]; exact h, Away.refl _ _, fun ad e => .inl ⟨ad, e, rfl⟩⟩

/-- a disk with one file, or none -/
def js (o : Option Fc) : St := ⟨1000, match o with | none => [] | some c => [([97], c)], none, false⟩
def fcOf (o : Option Fc) : Fc := o.getD ([], 0)
theorem js_append (o : Option Fc) (l : List UInt8) (h : (fcOf o).1.length + l.length ≤ 1000) : (js o).append [97] l = (js (some ((fcOf o).1 ++ l, (fcOf o).2)), 0) := by
  cases o with
  | none =>
    unfold St.append
    rw [if_neg (by simp [js]), if_neg (by decide), if_neg (by rintro (h1 | ⟨_, h1⟩) <;> first | (have h2 : (js none).used = 0 := rfl; have h3 : (js none).most = 1000 := rfl; have h4 : (fcOf none).1.length = 0 := rfl; omega) | (simp [js] at h1))]
    rfl
  | some c =>
    unfold St.append
    rw [if_neg (by simp [js]), if_neg (by decide), if_neg (by rintro (h1 | ⟨_, h1⟩) <;> first | (have h2 : (js (some c)).used = c.1.length + 0 := rfl; have h3 : (js (some c)).most = 1000 := rfl; have h4 : (fcOf (some c)).1.length = c.1.length := rfl; omega) | (simp [js] at h1))]
    rfl
theorem js_sync (c : Fc) : (js (some c)).sync [97] = (js (some (c.1, c.1.length)), 0) := rfl
def jr (c : Fc) : St := ⟨1000, [([98], c)], none, false⟩
theorem js_rename (c : Fc) : (js (some c)).rename [97] [98] = (jr c, 0) := rfl
theorem jr_rename (c : Fc) : (jr c).rename [98] [97] = (js (some c), 0) := rfl
/-- what is in the two files, and what is kept back -/
def JR (sa sb : Option Fc) (al : List UInt8) (j : Nat) : Prop := (fcOf sa).1 = (fcOf sb).1 ++ al ∧ (fcOf sa).2 = (fcOf sb).2 ∧ (sa = none → sb = none ∧ al = []) ∧ (fcOf sa).1.length ≤ 50 * j
theorem JR.more {sa sb : Option Fc} {al : List UInt8} {j : Nat} (h : JR sa sb al j) {l : List UInt8} (hl : l.length ≤ 50) : JR (some ((fcOf sa).1 ++ l, (fcOf sa).2)) sb (al ++ l) (j + 1) :=
  ⟨by show (fcOf sa).1 ++ l = _; rw [h.1, List.append_assoc], h.2.1, (fun e => by cases e), by have := h.2.2.2; show ((fcOf sa).1 ++ l).length ≤ _; rw [List.length_append]; omega⟩
theorem JR.next {sa sb : Option Fc} {al : List UInt8} {j : Nat} (h : JR sa sb al j) : JR sa sb al (j + 1) := ⟨h.1, h.2.1, h.2.2.1, by have := h.2.2.2; omega⟩
theorem JR.tight {sa sb : Option Fc} {al : List UInt8} {j : Nat} (h : JR sa sb al j) : (fcOf sb).1.length + al.length ≤ 50 * j := by have := h.2.2.2; rw [h.1, List.length_append] at this; exact this
theorem JR.synced {c : Fc} {sb : Option Fc} {al : List UInt8} {j : Nat} (h : JR (some c) sb al j) : JR (some (c.1, c.1.length)) (some ((fcOf sb).1 ++ al, ((fcOf sb).1 ++ al).length)) [] j :=
  ⟨by show c.1 = ((fcOf sb).1 ++ al) ++ []; rw [List.append_nil]; exact h.1, by show c.1.length = _; rw [show c.1 = _ from h.1]; rfl, (fun e => by cases e), h.2.2.2⟩

/-- the law's own bytes lie apart from both disks -/
def Free (w0 : World) (A : Option Addr) (F G : Nat → Prop) : Prop := ∀ ad, A = some ad → w0.heap.size ≤ ad.block ∧ ¬ F ad.block ∧ ¬ G ad.block
theorem Two.turnedB {w0 w w' : World} {a : Nat} {s s' : St} {b : Nat} {t : St} {F G : Nat → Prop} (h : Two w0 w a s b t F G) (ht : Turned w F a w' s') {A : Option Addr} {n c : Nat} {l : List UInt8} (hR : RB w A n c l) (hf : Free w0 A F G) :
    ∃ F', Two w0 w' a s' b t F' G ∧ RB w' A n c l ∧ Free w0 A F' G := by
  have hS := sess_turned h.new1 h.bel ht
  obtain ⟨F', hd, ha, hF⟩ := ht
  refine ⟨F', ⟨hd, h.two.away ha fun x g f => h.apart x f g, fun x f g => ?_, fun x f => ?_, h.new2, hS.bel⟩, hR.away ha fun ad e => (hf ad e).2.1, fun ad e => ⟨(hf ad e).1, fun f => ?_, (hf ad e).2.2⟩⟩
  · rcases hF x f with e | e
    · exact h.apart x e g
    · have := h.two.2.1 x g
      omega
  · rcases hF x f with e | e
    · exact h.new1 x e
    · exact Nat.le_trans h.bel.size e
  · rcases hF _ f with e1 | e1
    · exact (hf ad e).2.1 e1
    · have := hR.lt e
      omega
theorem Free.swap {w0 : World} {A : Option Addr} {F G : Nat → Prop} (h : Free w0 A F G) : Free w0 A G F := fun ad e => ⟨(h ad e).1, (h ad e).2.2, (h ad e).2.1⟩
section
variable {w0 w : World} {a : Nat} {s : St} {b : Nat} {t : St} {F G : Nat → Prop} {A : Option Addr} {n c : Nat} {l : List UInt8}
theorem jn_append (h : Two w0 w a s b t F G) (hR : RB w A n c l) (hf : Free w0 A F G) {B : Option Addr} {m d : Nat} {k : List UInt8} (hB : IsB w B m d k) (hm : m ≤ maxLen) {s' : St} {er : Nat} (he : s.append [97] k = (s', er)) :
    Calls Try.prog 15 #[.pointer (some ⟨a, 0, none⟩), .string ⟨#[97]⟩, .slice B m d] w fun e w' => e = .returned (.int .i64 (er : Int)) ∧ ∃ F', Two w0 w' a s' b t F' G ∧ RB w' A n c l ∧ Free w0 A F' G := by
  refine (append_disk h.one ⟨#[97]⟩ (by decide) hB hm).mono ?_
  rw [show (⟨#[97]⟩ : ByteArray).data.toList = [97] from rfl, he]
  rintro e w' ⟨rfl, ht⟩
  exact ⟨rfl, h.turnedB ht hR hf⟩
theorem jn_sync (h : Two w0 w a s b t F G) (hR : RB w A n c l) (hf : Free w0 A F G) {s' : St} {er : Nat} (he : s.sync [97] = (s', er)) :
    Calls Try.prog 20 #[.pointer (some ⟨a, 0, none⟩), .string ⟨#[97]⟩] w fun e w' => e = .returned (.int .i64 (er : Int)) ∧ ∃ F', Two w0 w' a s' b t F' G ∧ RB w' A n c l ∧ Free w0 A F' G := by
  refine (sync_any h.one ⟨#[97]⟩ (by decide)).mono ?_
  rw [show (⟨#[97]⟩ : ByteArray).data.toList = [97] from rfl, he]
  rintro e w' ⟨rfl, ht⟩
  exact ⟨rfl, h.turnedB ht hR hf⟩
theorem jn_rename (h : Two w0 w a s b t F G) {x y : UInt8} {s' : St} {er : Nat} (he : s.rename [x] [y] = (s', er)) :
    Calls Try.prog 22 #[.pointer (some ⟨a, 0, none⟩), .string ⟨#[x]⟩, .string ⟨#[y]⟩] w fun e w' => e = .returned (.int .i64 (er : Int)) ∧ ∃ F', Two w0 w' a s' b t F' G := by
  refine (rename_any h.one ⟨#[x]⟩ (by show (1 : Nat) ≤ maxLen; unfold maxLen; omega) ⟨#[y]⟩ (by show (1 : Nat) ≤ maxLen; unfold maxLen; omega)).mono ?_
  rw [show (⟨#[x]⟩ : ByteArray).data.toList = [x] from rfl, show (⟨#[y]⟩ : ByteArray).data.toList = [y] from rfl, he]
  rintro e w' ⟨rfl, ht⟩
  exact ⟨rfl, h.turned ht⟩
end
theorem Two.grow {w0 w w' : World} {a : Nat} {s : St} {b : Nat} {t : St} {F G : Nat → Prop} (h : Two w0 w a s b t F G) {A A' : Option Addr} (hf : Free w0 A F G) (ha : Away (fun b => ∃ ad, A = some ad ∧ ad.block = b) w w')
    (hat : ∀ ad', A' = some ad' → (∃ ad, A = some ad ∧ ad.block = ad'.block) ∨ w.heap.size ≤ ad'.block) : Two w0 w' a s b t F G ∧ Free w0 A' F G := by
  refine ⟨⟨h.one.away ha ?_, h.two.away ha ?_, h.apart, h.new1, h.new2, ?_⟩, fun ad' e => ?_⟩
  · rintro x f ⟨ad, e, rfl⟩
    exact (hf ad e).2.1 f
  · rintro x g ⟨ad, e, rfl⟩
    exact (hf ad e).2.2 g
  · have hb : Below w0.heap.size w w' := ha.below h.bel.size (by rintro x ⟨ad, e, rfl⟩; exact (hf ad e).1)
    exact h.bel.trans hb
  · rcases hat ad' e with ⟨ad, e1, e2⟩ | e1
    · rw [← e2]
      exact hf ad e1
    · exact ⟨Nat.le_trans h.bel.size e1, fun f => by have := h.one.2.1 _ f; omega, fun g => by have := h.two.2.1 _ g; omega⟩

/-- the pieces -/
structure PcC where
  B : Option Addr
  n : Nat
  c : Nat
  l : List UInt8
def PcC.ok (w : World) (x : PcC) : Prop := IsB w x.B x.n x.c x.l ∧ x.n ≤ maxLen

set_option maxRecDepth 100000 in
set_option maxHeartbeats 2000000 in
theorem join_walk (w : World) (A : Option Addr) (n c : Nat) (xs : List PcC) (h : IsL 1 (fun cs (x : PcC) => cs = [.slice x.B x.n x.c] ∧ x.ok w) w A n c xs) (p : Int) (hp0 : -9223372036854775808 ≤ p) (hp1 : p ≤ 9223372036854775807) :
    Calls Try.prog 11 #[.slice A n c, .int .i64 p] w fun e w' => e = .returned (.bool true) ∧ Below w.heap.size w w' := by
  have hm := h.max
  have hcap := h.cap
  unfold maxLen at hm
  go_enter Try.func11, Try.ntmps11
  go_wp2_with fail
  refine (new_any 1000 w (by omega)).mono ?_
  rintro e w1 ⟨a, F0, rfl, hD0, hf0, hb0⟩
  go_wp2_with fail
  refine (new_any 1000 w1 (by omega)).mono ?_
  rintro e w1' ⟨b, G0, rfl, hG0, hg0, hb1⟩
  have hT0 := two_new hD0 hf0 hb0 hG0 hg0 hb1
  clear hD0 hf0 hb0 hG0 hg0 hb1
  go_wp2_with fail
  go_loopw [9, 10] (fun v q wr => ∃ (j : Nat) (A1 : Option Addr) (n1 c1 : Nat) (al : List UInt8) (sa sb : Option Fc) (F G : Nat → Prop), v = .slice A1 n1 c1 ∧ q = .int .i64 (j : Int) ∧ j ≤ n ∧ j ≤ 20 ∧ RB wr A1 n1 c1 al ∧ Free w A1 F G ∧ Hid (JR sa sb al j) ∧ Two w wr a (js sa) b (js sb) F G) (fun _ q _ => n - (intOf q).toNat)
  case atStart => exact ⟨0, none, 0, 0, [], none, none, F0, G0, rfl, rfl, by omega, by omega, RB.nil _, (fun _ e => by cases e), ⟨rfl, rfl, fun _ => ⟨rfl, rfl⟩, by show 0 ≤ _; omega⟩, hT0⟩
  case round =>
    clear hT0
    obtain ⟨j, A1, n1, c1, al, sa, sb, F, G, rfl, rfl, hj, hj5, hR, hfr, hJ, hT⟩ := hrel
    by_cases hjn : j < n ∧ j < 20
    · obtain ⟨hjn, hj50⟩ := hjn
      obtain ⟨bl, o, x, cs, rfl, hx, _, hat, rfl, hok⟩ := h.at_ hjn
      have b0 : w.cell? ⟨bl, o + j, none⟩ = some (.slice x.B x.n x.c) := by have := hat 0 _ rfl; rwa [Nat.mul_one, Nat.add_zero] at this
      have e1 : decide ((j : Int) < (n : Int)) = true := decide_eq_true (by omega)
      have e2 : decide ((j : Int) < 20) = true := decide_eq_true (by omega)
      clear hat hx
      have x0 := cell_below hT.bel _ _ b0
      by_cases hlong : 50 < x.n
      · have d1 : decide ((50 : Int) < (x.n : Int)) = true := decide_eq_true (by omega)
        go_wp2_with fail
        go_roundw
        case rel => exact ⟨j + 1, A1, n1, c1, al, sa, sb, F, G, rfl, by go_num, by omega, by omega, hR, hfr, hJ.out.next, hT⟩
        case measure => simp [intOf]; omega
      · have d1 : decide ((50 : Int) < (x.n : Int)) = false := decide_eq_false (by omega)
        have hxl := hok.1.len
        have hs50 : x.n ≤ 50 := by omega
        have hJ2 := Lib.hid (hJ.out.more (l := x.l) (by omega))
        have HA := Lib.hid (js_append sa x.l (by have := hJ.out.2.2.2; omega))
        have hn1 : n1 ≤ 1000 := by have := hJ.out.tight; have := hR.len; omega
        generalize (((fcOf sa).1 ++ x.l, (fcOf sa).2) : Fc) = ca at hJ2 HA
        clear hlong hxl hJ
        go_wp2_with fail
        refine (jn_append hT hR hfr (hok.1.below hT.bel) hok.2 HA.out).mono ?_
        rintro e w3 ⟨rfl, F3, hT3, hR3, hfr3⟩
        have x1 := cell_below hT3.bel _ _ b0
        clear hT hR hfr x0 HA
        have hh := fun ty => rb_append hR3 ty (hok.1.below hT3.bel) (by omega)
        by_cases hpj : (j : Int) = p
        · have dp : ((j : Int) == p) = true := by simpa using hpj
          clear hpj
          go_wp2_with (at_builtin; refine wpList_run _ rfl (.tmp 48) (.tmp 52) 26 rfl (hh _) ?_; rintro v' w4 ⟨A4, n4, c4, rfl, hR4, ha4, hat4⟩)
          obtain ⟨hT4, hfr4⟩ := hT3.grow hfr3 ha4 hat4
          clear hh hR3 ha4 hat4 hT3 hfr3 x1
          go_wp2_with fail
          refine (jn_sync hT4 hR4 hfr4 (js_sync ca)).mono ?_
          rintro e w5 ⟨rfl, F5, hT5, hR5, hfr5⟩
          clear hT4 hR4 hfr4
          have htg := hJ2.out.tight
          have hn4 := hR5.len
          go_wp2_with fail
          refine (jn_append hT5.swap hR5 hfr5.swap hR5.isB (by unfold maxLen; omega) (js_append sb _ (by omega))).mono ?_
          rintro e w6 ⟨rfl, G6, hT6, hR6, hfr6⟩
          clear hT5 hR5 hfr5
          go_wp2_with fail
          refine (jn_sync hT6 hR6 hfr6 (js_sync _)).mono ?_
          rintro e w7 ⟨rfl, G7, hT7, hR7, hfr7⟩
          clear hT6 hR6 hfr6
          go_wp2_with fail
          go_roundw
          case rel => exact ⟨j + 1, none, 0, 0, [], _, _, _, _, rfl, by go_num, by omega, by omega, RB.nil _, (fun _ e => by cases e), hJ2.out.synced, hT7.swap⟩
          case measure => simp [intOf]; omega
        · have dp : ((j : Int) == p) = false := by simpa using hpj
          clear hpj
          go_wp2_with (at_builtin; refine wpList_run _ rfl (.tmp 48) (.tmp 52) 26 rfl (hh _) ?_; rintro v' w4 ⟨A4, n4, c4, rfl, hR4, ha4, hat4⟩)
          obtain ⟨hT4, hfr4⟩ := hT3.grow hfr3 ha4 hat4
          clear hh hR3 ha4 hat4 hT3 hfr3 x1
          go_wp2_with fail
          go_roundw
          case rel => exact ⟨j + 1, _, _, _, _, _, _, _, _, rfl, by go_num, by omega, by omega, hR4, hfr4, hJ2, hT4⟩
          case measure => simp [intOf]; omega
    · obtain rfl | ⟨rfl, h50⟩ | ⟨rfl, h50⟩ : j = n ∨ (j = 20 ∧ 20 < n) ∨ (j = 20 ∧ n ≤ 20) := by omega
      · have e1 : decide ((j : Int) < (j : Int)) = false := by simp
        rcases sa with _ | ca
        · go_wp2_with fail
          refine (d_list hT.one).mono ?_
          rintro e w4 ⟨A4, c4, rfl, _, hb4⟩
          rw [show (js none).fs.length = 0 from rfl]
          have hT4 := hT.below hb4
          go_wp2_with fail
          refine (awake2_any _).mono ?_
          rintro e w9 ⟨rfl, hb9⟩
          go_wp2_with fail
          go_ret
          exact ⟨rfl, bst hT4.bel hb9⟩
        · have hpair : ((fcOf sb).1 ++ al, (fcOf sb).2) = ca := by
            have q1 : ca.1 = (fcOf sb).1 ++ al := hJ.out.1
            have q2 : ca.2 = (fcOf sb).2 := hJ.out.2.1
            rw [← q1, ← q2]
          have htg := hJ.out.tight
          have hnl := hR.len
          have HB : Hid ((js sb).append [97] al = (js (some ca), 0)) := by show _ = _; rw [js_append sb al (by omega), hpair]
          clear hJ hpair
          go_wp2_with fail
          refine (d_list hT.one).mono ?_
          rintro e w4 ⟨A4, c4, rfl, _, hb4⟩
          rw [show (js (some ca)).fs.length = 1 from rfl]
          have hT4 := hT.below hb4
          have hR4 := hR.away (Away.of_new hb4 (fun _ => False)) fun _ _ f => f
          clear hT hR hb4
          go_wp2_with fail
          refine (jn_append hT4.swap hR4 hfr.swap hR4.isB (by unfold maxLen; omega) HB.out).mono ?_
          rintro e w5 ⟨rfl, G5, hT5, _, _⟩
          replace hT5 := hT5.swap
          clear hT4 hR4 hfr
          go_wp2_with fail
          refine (alike_any hT5.one hT5.two rfl rfl).mono ?_
          rintro e w6 ⟨rfl, hb6⟩
          have hT6 := hT5.below hb6
          clear hT5 hb6
          go_wp2_with fail
          refine (jn_rename hT6 (js_rename ca)).mono ?_
          rintro e w7 ⟨rfl, F7, hT7⟩
          clear hT6
          go_wp2_with fail
          refine (jn_rename hT7 (jr_rename ca)).mono ?_
          rintro e w8 ⟨rfl, F8, hT8⟩
          clear hT7
          go_wp2_with fail
          refine (alike_any hT8.one hT8.two rfl rfl).mono ?_
          rintro e w9 ⟨rfl, hb9⟩
          have hT9 := hT8.below hb9
          go_wp2_with fail
          refine (awake2_any _).mono ?_
          rintro e w10 ⟨rfl, hb10⟩
          go_wp2_with fail
          go_ret
          exact ⟨rfl, bst hT9.bel hb10⟩
      · have e1 : decide ((20 : Int) < (n : Int)) = true := decide_eq_true (by omega)
        rcases sa with _ | ca
        · go_wp2_with fail
          refine (d_list hT.one).mono ?_
          rintro e w4 ⟨A4, c4, rfl, _, hb4⟩
          rw [show (js none).fs.length = 0 from rfl]
          have hT4 := hT.below hb4
          go_wp2_with fail
          refine (awake2_any _).mono ?_
          rintro e w9 ⟨rfl, hb9⟩
          go_wp2_with fail
          go_ret
          exact ⟨rfl, bst hT4.bel hb9⟩
        · have hpair : ((fcOf sb).1 ++ al, (fcOf sb).2) = ca := by
            have q1 : ca.1 = (fcOf sb).1 ++ al := hJ.out.1
            have q2 : ca.2 = (fcOf sb).2 := hJ.out.2.1
            rw [← q1, ← q2]
          have htg := hJ.out.tight
          have hnl := hR.len
          have HB : Hid ((js sb).append [97] al = (js (some ca), 0)) := by show _ = _; rw [js_append sb al (by omega), hpair]
          clear hJ hpair
          go_wp2_with fail
          refine (d_list hT.one).mono ?_
          rintro e w4 ⟨A4, c4, rfl, _, hb4⟩
          rw [show (js (some ca)).fs.length = 1 from rfl]
          have hT4 := hT.below hb4
          have hR4 := hR.away (Away.of_new hb4 (fun _ => False)) fun _ _ f => f
          clear hT hR hb4
          go_wp2_with fail
          refine (jn_append hT4.swap hR4 hfr.swap hR4.isB (by unfold maxLen; omega) HB.out).mono ?_
          rintro e w5 ⟨rfl, G5, hT5, _, _⟩
          replace hT5 := hT5.swap
          clear hT4 hR4 hfr
          go_wp2_with fail
          refine (alike_any hT5.one hT5.two rfl rfl).mono ?_
          rintro e w6 ⟨rfl, hb6⟩
          have hT6 := hT5.below hb6
          clear hT5 hb6
          go_wp2_with fail
          refine (jn_rename hT6 (js_rename ca)).mono ?_
          rintro e w7 ⟨rfl, F7, hT7⟩
          clear hT6
          go_wp2_with fail
          refine (jn_rename hT7 (jr_rename ca)).mono ?_
          rintro e w8 ⟨rfl, F8, hT8⟩
          clear hT7
          go_wp2_with fail
          refine (alike_any hT8.one hT8.two rfl rfl).mono ?_
          rintro e w9 ⟨rfl, hb9⟩
          have hT9 := hT8.below hb9
          go_wp2_with fail
          refine (awake2_any _).mono ?_
          rintro e w10 ⟨rfl, hb10⟩
          go_wp2_with fail
          go_ret
          exact ⟨rfl, bst hT9.bel hb10⟩
      · have e1 : decide ((20 : Int) < (n : Int)) = false := decide_eq_false (by omega)
        rcases sa with _ | ca
        · go_wp2_with fail
          refine (d_list hT.one).mono ?_
          rintro e w4 ⟨A4, c4, rfl, _, hb4⟩
          rw [show (js none).fs.length = 0 from rfl]
          have hT4 := hT.below hb4
          go_wp2_with fail
          refine (awake2_any _).mono ?_
          rintro e w9 ⟨rfl, hb9⟩
          go_wp2_with fail
          go_ret
          exact ⟨rfl, bst hT4.bel hb9⟩
        · have hpair : ((fcOf sb).1 ++ al, (fcOf sb).2) = ca := by
            have q1 : ca.1 = (fcOf sb).1 ++ al := hJ.out.1
            have q2 : ca.2 = (fcOf sb).2 := hJ.out.2.1
            rw [← q1, ← q2]
          have htg := hJ.out.tight
          have hnl := hR.len
          have HB : Hid ((js sb).append [97] al = (js (some ca), 0)) := by show _ = _; rw [js_append sb al (by omega), hpair]
          clear hJ hpair
          go_wp2_with fail
          refine (d_list hT.one).mono ?_
          rintro e w4 ⟨A4, c4, rfl, _, hb4⟩
          rw [show (js (some ca)).fs.length = 1 from rfl]
          have hT4 := hT.below hb4
          have hR4 := hR.away (Away.of_new hb4 (fun _ => False)) fun _ _ f => f
          clear hT hR hb4
          go_wp2_with fail
          refine (jn_append hT4.swap hR4 hfr.swap hR4.isB (by unfold maxLen; omega) HB.out).mono ?_
          rintro e w5 ⟨rfl, G5, hT5, _, _⟩
          replace hT5 := hT5.swap
          clear hT4 hR4 hfr
          go_wp2_with fail
          refine (alike_any hT5.one hT5.two rfl rfl).mono ?_
          rintro e w6 ⟨rfl, hb6⟩
          have hT6 := hT5.below hb6
          clear hT5 hb6
          go_wp2_with fail
          refine (jn_rename hT6 (js_rename ca)).mono ?_
          rintro e w7 ⟨rfl, F7, hT7⟩
          clear hT6
          go_wp2_with fail
          refine (jn_rename hT7 (jr_rename ca)).mono ?_
          rintro e w8 ⟨rfl, F8, hT8⟩
          clear hT7
          go_wp2_with fail
          refine (alike_any hT8.one hT8.two rfl rfl).mono ?_
          rintro e w9 ⟨rfl, hb9⟩
          have hT9 := hT8.below hb9
          go_wp2_with fail
          refine (awake2_any _).mono ?_
          rintro e w10 ⟨rfl, hb10⟩
          go_wp2_with fail
          go_ret
          exact ⟨rfl, bst hT9.bel hb10⟩
end Go.Proofs.Ytdcflgblaljdeaa
