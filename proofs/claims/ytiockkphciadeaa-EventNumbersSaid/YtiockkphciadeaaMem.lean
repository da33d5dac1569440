/-
  Bytes in memory, without the program: what it is that a slice of bytes holds, how that is kept, how it grows by an append, and what its string is.
-/
import Derived.WalkKit
import Derived.Lib.UnsafeStr
import Derived.Lib.SlBytesRow
import Derived.Deep.Draws
namespace Go.Proofs.Ytiockkphciadeaa
open Go.RowKit
open Go.Lib (byteCells byteCells_length byteCells_append)

/-- The address A leads to the bytes l, in the world w. -/
def Src (w : World) (A : Option Addr) (l : List UInt8) : Prop :=
  l = [] ∨ ∃ b o, A = some ⟨b, o, none⟩ ∧ ∀ j u, l[j]? = some u → w.cell? ⟨b, o + j, none⟩ = some (.int .u8 (u.toNat : Int))

theorem Src.nil (w : World) (A : Option Addr) : Src w A [] := .inl rfl
theorem Src.keep {w w' : World} {A : Option Addr} {l : List UInt8} (h : Src w A l)
    (hk : ∀ p v, w.cell? p = some v → w'.cell? p = some v) : Src w' A l := by
  rcases h with h | ⟨b, o, hA, hc⟩
  · exact .inl h
  · exact .inr ⟨b, o, hA, fun j u hj => hk _ _ (hc j u hj)⟩
theorem cell_below {w w' : World} (hb : Below w.heap.size w w') (p : Addr) (v : Value) (h : w.cell? p = some v) : w'.cell? p = some v :=
  (hb.cell (block_lt_of_cell h)).trans h
theorem Src.below {w w' : World} {A : Option Addr} {l : List UInt8} (h : Src w A l) (hb : Below w.heap.size w w') : Src w' A l :=
  h.keep (cell_below hb)
theorem Src.drew {w : World} {A : Option Addr} {l : List UInt8} (h : Src w A l) : Src w.drew A l := h
theorem Src.drewN {w : World} {A : Option Addr} {l : List UInt8} (h : Src w A l) (k : Nat) : Src (w.drewN k) A l := h
theorem Src.alloc {w : World} {A : Option Addr} {l : List UInt8} (h : Src w A l) (o : Obj) : Src (w.alloc o) A l :=
  h.below ((Below.refl _ _).alloc (Nat.le_refl _) o)

/-- A slice value (its three parts) holds the bytes l. -/
structure IsB (w : World) (A : Option Addr) (n c : Nat) (l : List UInt8) : Prop where
  len : l.length = n
  cap : n ≤ c
  none_ : A = none → c = 0
  src : Src w A l

theorem IsB.nil (w : World) : IsB w none 0 0 [] := ⟨rfl, Nat.le_refl _, fun _ => rfl, .inl rfl⟩
theorem IsB.below {w w' : World} {A : Option Addr} {n c : Nat} {l : List UInt8} (h : IsB w A n c l) (hb : Below w.heap.size w w') : IsB w' A n c l :=
  ⟨h.len, h.cap, h.none_, h.src.below hb⟩
theorem IsB.alloc {w : World} {A : Option Addr} {n c : Nat} {l : List UInt8} (h : IsB w A n c l) (o : Obj) : IsB (w.alloc o) A n c l :=
  ⟨h.len, h.cap, h.none_, h.src.alloc o⟩
theorem IsB.drewN {w : World} {A : Option Addr} {n c : Nat} {l : List UInt8} (h : IsB w A n c l) (k : Nat) : IsB (w.drewN k) A n c l :=
  ⟨h.len, h.cap, h.none_, h.src.drewN k⟩

/-- The slice value v, of elements of type e, is the call's own (its blocks: from base on) and holds the bytes l. -/
def Own (w : World) (base : Nat) (e : TypeId) (v : Value) (l : List UInt8) : Prop := w.ownsRow base e 1 v l.length (byteCells l)
theorem Own.nil (w : World) (base : Nat) (e : TypeId) : Own w base e (.slice none 0 0) [] := World.ownsRow_nil w base e 1

/-- What a call owns is a slice that holds its bytes. -/
theorem own_is {w : World} {base : Nat} {e : TypeId} {v : Value} {l : List UInt8} (h : Own w base e v l) :
    ∃ A c, v = .slice A l.length c ∧ IsB w A l.length c l ∧ c ≤ maxLen := by
  unfold Own at h
  rcases h.2 with ⟨rfl, hn⟩ | ⟨g, cap, cur, rfl, _, hg, hnc, hcm, hcs, htake⟩
  · have : l = [] := List.eq_nil_of_length_eq_zero hn
    subst this
    exact ⟨none, 0, rfl, IsB.nil w, Nat.zero_le _⟩
  · refine ⟨some ⟨g, 0, none⟩, cap, rfl, ⟨rfl, hnc, (fun h => by cases h), .inr ⟨g, 0, rfl, ?_⟩⟩, hcm⟩
    intro j u hj
    have hx := World.ownsRow.cells (g := g) h rfl j (.int .u8 (u.toNat : Int)) (by rw [byteCells, List.getElem?_map, hj]; rfl)
    simpa [Addr.add_lit] using hx

/-- Either the call's own, or as full as it can be: an append makes new memory, or writes what is the call's own. -/
def Full (w : World) (base : Nat) (e : TypeId) (v : Value) (l : List UInt8) : Prop :=
  Own w base e v l ∨ ∃ A, v = .slice A l.length l.length ∧ (A = none → l = []) ∧ Src w A l
theorem Own.below {w w' : World} {base : Nat} {e : TypeId} {v : Value} {l : List UInt8} (h : Own w base e v l) (hb : Below w.heap.size w w') : Own w' base e v l := by
  unfold Own at h ⊢
  refine ⟨h.1, ?_⟩
  rcases h.2 with hn | ⟨g, cap, cur, rfl, hbg, hg, hr⟩
  · exact .inl hn
  · exact .inr ⟨g, cap, cur, rfl, hbg, (hb.block g (Array.getElem?_eq_some_iff.1 hg).1).trans hg, hr⟩
theorem Own.mono {w : World} {base base' : Nat} {e : TypeId} {v : Value} {l : List UInt8} (h : Own w base e v l) (hb : base' ≤ base) : Own w base' e v l := by
  unfold Own at h ⊢
  refine ⟨h.1, ?_⟩
  rcases h.2 with hn | ⟨g, cap, cur, rfl, hbg, hr⟩
  · exact .inl hn
  · exact .inr ⟨g, cap, cur, rfl, Nat.le_trans hb hbg, hr⟩
theorem Full.below {w w' : World} {base : Nat} {e : TypeId} {v : Value} {l : List UInt8} (h : Full w base e v l) (hb : Below w.heap.size w w') : Full w' base e v l := by
  rcases h with h | ⟨A, rfl, hA, hs⟩
  · exact .inl (h.below hb)
  · exact .inr ⟨A, rfl, hA, hs.below hb⟩
theorem byteCells_one (l : List UInt8) : ∀ v ∈ byteCells l, v.oneCell' = true := by
  intro v hv
  obtain ⟨u, _, rfl⟩ := List.mem_map.1 hv
  rfl

theorem cells_of {w : World} {ad : Addr} {news : List UInt8} (hc : ∀ j u, news[j]? = some u → w.cell? (ad.add j) = some (.int .u8 (u.toNat : Int))) :
    ∀ j u, (byteCells news)[j]? = some u → w.cell? (ad.add j) = some u := by
  intro j u hj
  rw [byteCells, List.getElem?_map] at hj
  cases hn : news[j]? with
  | none => rw [hn] at hj; cases hj
  | some q => rw [hn] at hj; obtain rfl := Option.some.inj hj; exact hc j q hn
theorem Src.cells {w : World} {A : Option Addr} {l : List UInt8} (h : Src w A l) : ∀ b, A = some b → ∀ j u, (byteCells l)[j]? = some u → w.cell? (b.add j) = some u := by
  rcases h with rfl | ⟨b', o', hA', hcl⟩
  · intro b _ j u hj
    simp [byteCells] at hj
  · intro b hb
    rw [hA'] at hb
    obtain rfl := Option.some.inj hb
    refine cells_of fun j u hj => ?_
    rw [Addr.add_lit]
    exact hcl j u hj

/-- An append of some bytes to what is the call's own, or full: the call's own. -/
theorem run_put {P : Program} (w : World) (t ty e : TypeId) (i : TypeInfo) (h1 : P.underlying t = some (.slice e)) (h2 : P.info? e = some i) (h3 : i.zero = some (.int .u8 0)) (h4 : i.size = 1) (h5 : i.bytes = 1)
    (base : Nat) (v : Value) (l : List UInt8) (hf : Full w base e v l)
    (ad : Addr) (m c : Nat) (news : List UInt8) (hm : news.length = m) (hpos : 0 < m)
    (hc : ∀ j u, news[j]? = some u → w.cell? (ad.add j) = some (.int .u8 (u.toNat : Int)))
    (hsize : l.length + m ≤ 70368744177664) (hbase : base ≤ w.heap.size) :
    ∃ v' w', (Builtin.append_ #[t, t] ty #[v, .slice (some ad) m c]).run P w = .ok v' w' ∧ Own w' base e v' (l ++ news) ∧ Below base w w' := by
  subst hm
  have el : l.length + news.length = (l ++ news).length := (List.length_append).symm
  have ec : byteCells l ++ byteCells news = byteCells (l ++ news) := (byteCells_append _ _).symm
  unfold Full Own at hf
  rcases hf with hown | ⟨A, rfl, hA, hsrc⟩
  · obtain ⟨v', w', hr, hown', hgr, _⟩ := run_append_own (P := P) w base t ty e i (.int .u8 0) 1 1 h1 h2 h3 h4 h5 rfl (by decide) v l.length (byteCells l) hown ad news.length c (byteCells news)
      (by rw [byteCells_length, Nat.mul_one]) (cells_of hc) (byteCells_one _) (by unfold maxLen; omega) (by omega) hbase
    rw [el, ec] at hown'
    exact ⟨v', w', hr, hown', (Below.refl base w).grown hgr hbase fun k hk => (hown.lt k hk).1⟩
  · have fin : ∀ v' w', w'.ownsRow w.heap.size e 1 v' (l.length + news.length) (byteCells l ++ byteCells news) → w.grownBy w' none → Own w' base e v' (l ++ news) ∧ Below base w w' := by
      intro v' w' hown' hgr
      rw [el, ec] at hown'
      refine ⟨⟨hown'.1, ?_⟩, (Below.refl base w).grown hgr hbase (fun k hk => by cases hk)⟩
      rcases hown'.2 with hn | ⟨g, cap, cur, hv, hbg, hr⟩
      · exact .inl hn
      · exact .inr ⟨g, cap, cur, hv, Nat.le_trans hbase hbg, hr⟩
    cases A with
    | some b =>
      obtain ⟨v', w', hrun, r1, r2⟩ := run_append_arg_grows (P := P) w t ty e i (.int .u8 0) 1 1 h1 h2 h3 h4 h5 rfl (by decide) b l.length l.length (byteCells l) (by rw [byteCells_length, Nat.mul_one]) (hsrc.cells b rfl) ad news.length c (byteCells news)
        (by rw [byteCells_length, Nat.mul_one]) (cells_of hc) (by omega) (by unfold maxLen; omega) (by omega)
      exact ⟨v', w', hrun, fin v' w' r1 r2⟩
    | none =>
      obtain rfl := hA rfl
      obtain ⟨v', w', hr, hown', hgr, _⟩ := run_append_own (P := P) w w.heap.size t ty e i (.int .u8 0) 1 1 h1 h2 h3 h4 h5 rfl (by decide) (.slice none 0 0) 0 [] (World.ownsRow_nil w _ e 1) ad news.length c (byteCells news)
        (by rw [byteCells_length, Nat.mul_one]) (cells_of hc) (byteCells_one _) (by unfold maxLen; omega) (by omega) (Nat.le_refl _)
      exact ⟨v', w', hr, fin v' w' hown' hgr⟩

/-- An append of whatever bytes (none, nil too) to what is the call's own. -/
theorem run_putAny {P : Program} (w : World) (t ty e : TypeId) (i : TypeInfo) (h1 : P.underlying t = some (.slice e)) (h2 : P.info? e = some i) (h3 : i.zero = some (.int .u8 0)) (h4 : i.size = 1) (h5 : i.bytes = 1)
    (base : Nat) (v : Value) (l : List UInt8) (hown : Own w base e v l)
    (B : Option Addr) (m c : Nat) (news : List UInt8) (hb : IsB w B m c news)
    (hsize : l.length + m ≤ 70368744177664) (hbase : base ≤ w.heap.size) :
    ∃ v' w', (Builtin.append_ #[t, t] ty #[v, .slice B m c]).run P w = .ok v' w' ∧ Own w' base e v' (l ++ news) ∧ Below base w w' := by
  obtain ⟨rfl, hcap, hnone, hsrc⟩ := hb
  unfold Own at hown
  cases B with
  | some ad =>
    have el : l.length + news.length = (l ++ news).length := (List.length_append).symm
    have ec : byteCells l ++ byteCells news = byteCells (l ++ news) := (byteCells_append _ _).symm
    obtain ⟨v', w', hr, hown', hgr, _⟩ := run_append_own (P := P) w base t ty e i (.int .u8 0) 1 1 h1 h2 h3 h4 h5 rfl (by decide) v l.length (byteCells l) hown ad news.length c (byteCells news)
      (by rw [byteCells_length, Nat.mul_one]) (hsrc.cells ad rfl) (byteCells_one _) (by unfold maxLen; omega) (by omega) hbase
    rw [el, ec] at hown'
    exact ⟨v', w', hr, hown', (Below.refl base w).grown hgr hbase fun k hk => (hown.lt k hk).1⟩
  | none =>
    obtain rfl : c = 0 := hnone rfl
    obtain rfl : news = [] := List.eq_nil_of_length_eq_zero (by omega)
    refine ⟨v, w, run_append_owned_none w base t ty e i 1 h1 h2 v l.length (byteCells l) hown, ?_, Below.refl _ _⟩
    rw [List.append_nil]
    exact hown

/-- The same, for the walk. -/
theorem wpList_run {P : Program} (w : World) {ops : Array Oper} {rest : List Oper} {o : Oper} {a : Act} {Q : Exit → Act → World → Prop}
    (hg : o.guard = none) (s x : Operand) (t : TypeId) (hop : o.op = Op.call { callee := Callee.builtin Builtin.append, args := #[s, x], argTypes := #[t, t] })
    {R : Value → World → Prop} (h : ∃ v' w', (Builtin.append_ #[t, t] o.type #[a.eval s, a.eval x]).run P w = .ok v' w' ∧ R v' w')
    (hK : ∀ v' w', R v' w' → wpList P ops Q rest (a.put o.dst v') w') : wpList P ops Q (o :: rest) a w := by
  refine wpList_plain hg fun K hK' => ?_
  obtain ⟨v', w', hrun, hR⟩ := h
  unfold Oper.wp
  simp [execOp, hop, resolve, invoke, builtin, hrun, Result.andThen]
  exact hK' _ _ (hK v' w' hR)
theorem wpList_put {P : Program} (w : World) {ops : Array Oper} {rest : List Oper} {o : Oper} {a : Act} {Q : Exit → Act → World → Prop}
    (hg : o.guard = none) (s x : Operand) (t : TypeId) (hop : o.op = Op.call { callee := Callee.builtin Builtin.append, args := #[s, x], argTypes := #[t, t] })
    (e : TypeId) (i : TypeInfo) (h1 : P.underlying t = some (.slice e)) (h2 : P.info? e = some i) (h3 : i.zero = some (.int .u8 0)) (h4 : i.size = 1) (h5 : i.bytes = 1)
    (base : Nat) (v : Value) (l : List UInt8) (hs : a.eval s = v) (hf : Full w base e v l)
    (ad : Addr) (m c : Nat) (news : List UInt8) (hx : a.eval x = .slice (some ad) m c) (hm : news.length = m) (hpos : 0 < m)
    (hc : ∀ j u, news[j]? = some u → w.cell? (ad.add j) = some (.int .u8 (u.toNat : Int)))
    (hsize : l.length + m ≤ 70368744177664) (hbase : base ≤ w.heap.size)
    (hK : ∀ v' w', Own w' base e v' (l ++ news) → Below base w w' → wpList P ops Q rest (a.put o.dst v') w') :
    wpList P ops Q (o :: rest) a w :=
  wpList_run w hg s x t hop (R := fun v' w' => Own w' base e v' (l ++ news) ∧ Below base w w')
    (by rw [hs, hx]; exact run_put w t o.type e i h1 h2 h3 h4 h5 base v l hf ad m c news hm hpos hc hsize hbase) fun v' w' h => hK v' w' h.1 h.2
theorem wpList_putAny {P : Program} (w : World) {ops : Array Oper} {rest : List Oper} {o : Oper} {a : Act} {Q : Exit → Act → World → Prop}
    (hg : o.guard = none) (s x : Operand) (t : TypeId) (hop : o.op = Op.call { callee := Callee.builtin Builtin.append, args := #[s, x], argTypes := #[t, t] })
    (e : TypeId) (i : TypeInfo) (h1 : P.underlying t = some (.slice e)) (h2 : P.info? e = some i) (h3 : i.zero = some (.int .u8 0)) (h4 : i.size = 1) (h5 : i.bytes = 1)
    (base : Nat) (v : Value) (l : List UInt8) (hs : a.eval s = v) (hown : Own w base e v l)
    (B : Option Addr) (m c : Nat) (news : List UInt8) (hx : a.eval x = .slice B m c) (hb : IsB w B m c news)
    (hsize : l.length + m ≤ 70368744177664) (hbase : base ≤ w.heap.size)
    (hK : ∀ v' w', Own w' base e v' (l ++ news) → Below base w w' → wpList P ops Q rest (a.put o.dst v') w') :
    wpList P ops Q (o :: rest) a w :=
  wpList_run w hg s x t hop (R := fun v' w' => Own w' base e v' (l ++ news) ∧ Below base w w')
    (by rw [hs, hx]; exact run_putAny w t o.type e i h1 h2 h3 h4 h5 base v l hown B m c news hb hsize hbase) fun v' w' h => hK v' w' h.1 h.2
/-- The same, as a step of a region that draws its order. -/
theorem step_run {P : Program} {ops : Array Oper} {o : Oper} {a : Act} {w : World} {K : Act → World → Prop} {Q : Exit → Act → World → Prop} {E : Prop}
    (hw : Region.wanted o (yielded ops a.tmps) = true) (s x : Operand) (t : TypeId) (hop : o.op = Op.call { callee := Callee.builtin Builtin.append, args := #[s, x], argTypes := #[t, t] })
    {R : Value → World → Prop} (h : ∃ v' w', (Builtin.append_ #[t, t] o.type #[a.eval s, a.eval x]).run P w = .ok v' w' ∧ R v' w')
    (hK : ∀ v' w', R v' w' → K (a.put o.dst v') w') :
    if Region.wanted o (yielded ops a.tmps) = true then Oper.wp P o a w K Q else E := by
  rw [if_pos hw]
  obtain ⟨v', w', hrun, hR⟩ := h
  unfold Oper.wp
  simp [execOp, hop, resolve, invoke, builtin, hrun, Result.andThen]
  exact hK v' w' hR

/-- The string of a slice of bytes. -/
theorem run_str {P : Program} (w : World) (src dst e : TypeId) (hs : P.underlying src = some (.slice e)) (he : P.underlying e = some (.int .u8)) (hd : P.underlying dst = some .string)
    (A : Option Addr) (n c : Nat) (l : List UInt8) (h : IsB w A n c l) :
    (convert src dst (.slice A n c)).run P w = .ok (.string ⟨l.toArray⟩) w := by
  obtain ⟨rfl, _, hnone, hsrc⟩ := h
  rcases hsrc with rfl | ⟨b, o, rfl, hc⟩
  · rw [run_convert_bytes_string w src dst e A _ c hs he hd]
    unfold Conv.bytesToString
    cases A with
    | none => rfl
    | some a =>
      simp [loadCells, loadCellsFrom, Sem.run_pure]
      rfl
  · refine Lib.run_convert_whole w src e dst hs he hd b o ⟨l.toArray⟩ ?_ c
    intro i hi
    have hi' : i < l.length := hi
    have hj := hc i l[i] (List.getElem?_eq_getElem hi')
    rw [hj]
    rfl
end Go.Proofs.Ytiockkphciadeaa
