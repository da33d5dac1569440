/-
  What is packed is unpacked, and what is unpacked, packed again, is the same bytes.
-/
import Derived.Test.YtiockkphciadeaaKSgUnpack
set_option linter.unusedVariables false
set_option linter.unusedSimpArgs false
namespace Go.Proofs.Ytiockkphciadeaa
open Go.RowKit
open Go.Lib (byteCells byteCells_length byteCells_append uvarint)

theorem zip_map (f : Ev → Int → Ev) (g : Ev → Ev) (h : Ev → Int) : ∀ es : List Ev, List.zipWith f (es.map g) (es.map h) = es.map fun e => f (g e) (h e)
  | [] => rfl
  | e :: es => by
    rw [List.map_cons, List.map_cons, List.zipWith_cons_cons, zip_map f g h es, List.map_cons]
theorem rdCol_enc {c : Nat} {b r : List UInt8} {k : Nat} {es0 es : List Ev} (hl : es0.length = es.length) (hm : es.length ≤ 1048576) (hok : ∀ e ∈ es, e.ok) (h : b.drop k = numsBytes (es.map (colGet c)) ++ r) :
    rdCol c b k es0 = some (List.zipWith (colSet c) es0 (es.map (colGet c)), k + (numsBytes (es.map (colGet c))).length) := by
  have hx : ∀ x ∈ es.map (colGet c), In64 x := fun x hx => by
    obtain ⟨e, he, rfl⟩ := List.mem_map.1 hx
    exact colGet_in (hok e he) c
  have he := expand_runs (diffs 0 (es.map (colGet c)))
  have hg := good_runs (diffs 0 (es.map (colGet c)))
  have hdl := diffs_length 0 (es.map (colGet c))
  rw [List.length_map] at hdl
  have hs := sums_diffs (es.map (colGet c)) 0 hx
  have := rdColF_enc c b (runsOf (diffs 0 (es.map (colGet c)))) es0.length k 0 0 0 es0 r hg (by
      cases runsOf (diffs 0 (es.map (colGet c))) with
      | nil => trivial
      | cons q qs => exact fun h => absurd h (by decide)) (by rw [he, hdl, hl]) (Nat.le_refl _) (by omega) (fun q hq => by
        have := good_mem hg hq
        rw [he] at this
        exact diffs_in _ _ _ this.1) (fun x hx' => by
          rw [he, hs] at hx'
          obtain ⟨e, he', rfl⟩ := List.mem_map.1 hx'
          exact fits_ok (hok e he') c) h
  rw [he, hs] at this
  exact this
theorem drop_next {b r s : List UInt8} {k : Nat} (h : b.drop k = s ++ r) : b.drop (k + s.length) = r := drop_more h
theorem mix_id {e : Ev} (h : e.ok) : colSet 4 (colSet 3 (colSet 2 (colSet 1 (colSet 0 Ev.zero (colGet 0 e)) (colGet 1 e)) (colGet 2 e)) (colGet 3 e)) (colGet 4 e) = e := by
  have ho := h.op
  obtain ⟨a, o, b, c, d⟩ := e
  have h1 : (((o : Int) % 256).toNat : Nat) = o := by
    have : o < 256 := ho
    omega
  show Ev.mk a (((o : Int) % 256).toNat) b c d = _
  rw [h1]
theorem rdDense_enc {first : Nat} {es : List Ev} (hf : first ≤ 4611686018427387904) (h1 : 1 ≤ es.length) (hm : es.length ≤ 1048576) (hok : ∀ e ∈ es, e.ok) : rdDense (denseOf first es) = some (first, es) := by
  have hb := rdBegin_begin (mark := denseMark) (l := denseOf first es) (r := uvarint es.length ++ colsTo es 5) rfl hf rfl
  have hd : (denseOf first es).drop (beginOf denseMark first).length = uvarint es.length ++ colsTo es 5 := List.drop_left
  have hg := getU_uvarint (x := es.length) (colsTo es 5) (by omega)
  have hd1 := drop_next hd
  have hc : colsTo es 5 = numsBytes (es.map (colGet 0)) ++ (numsBytes (es.map (colGet 1)) ++ (numsBytes (es.map (colGet 2)) ++ (numsBytes (es.map (colGet 3)) ++ (numsBytes (es.map (colGet 4)) ++ [])))) := by
    show ((((([] : List UInt8) ++ _) ++ _) ++ _) ++ _) ++ _ = _
    rw [List.nil_append, List.append_nil, List.append_assoc, List.append_assoc, List.append_assoc]
  have hlen : (denseOf first es).length = (beginOf denseMark first).length + (uvarint es.length).length + (colsTo es 5).length := by
    unfold denseOf
    rw [List.length_append, List.length_append]
    omega
  rw [hc] at hd1 hlen
  have hr := List.length_replicate (n := es.length) (a := Ev.zero)
  have z0 : List.replicate es.length Ev.zero = es.map fun _ => Ev.zero := by rw [List.map_const']
  have c0 := rdCol_enc (c := 0) hr hm hok hd1
  rw [z0, zip_map] at c0
  have c1 := rdCol_enc (c := 1) (es0 := es.map fun e => colSet 0 Ev.zero (colGet 0 e)) (by rw [List.length_map]) hm hok (drop_next hd1)
  rw [zip_map] at c1
  have c2 := rdCol_enc (c := 2) (es0 := es.map fun e => colSet 1 (colSet 0 Ev.zero (colGet 0 e)) (colGet 1 e)) (by rw [List.length_map]) hm hok (drop_next (drop_next hd1))
  rw [zip_map] at c2
  have c3 := rdCol_enc (c := 3) (es0 := es.map fun e => colSet 2 (colSet 1 (colSet 0 Ev.zero (colGet 0 e)) (colGet 1 e)) (colGet 2 e)) (by rw [List.length_map]) hm hok (drop_next (drop_next (drop_next hd1)))
  rw [zip_map] at c3
  have c4 := rdCol_enc (c := 4) (es0 := es.map fun e => colSet 3 (colSet 2 (colSet 1 (colSet 0 Ev.zero (colGet 0 e)) (colGet 1 e)) (colGet 2 e)) (colGet 3 e)) (by rw [List.length_map]) hm hok (drop_next (drop_next (drop_next (drop_next hd1))))
  rw [zip_map] at c4
  have hid : (es.map fun e => colSet 4 (colSet 3 (colSet 2 (colSet 1 (colSet 0 Ev.zero (colGet 0 e)) (colGet 1 e)) (colGet 2 e)) (colGet 3 e)) (colGet 4 e)) = es := by
    conv => rhs; rw [← List.map_id es]
    exact List.map_congr_left fun e he => mix_id (hok e he)
  rw [hid] at c4
  unfold rdDense
  rw [hb]
  simp only
  rw [hd, hg]
  simp only
  rw [if_neg (by simp), if_neg (by omega), z0]
  simp only [rdCols, c0, c1, c2, c3, c4]
  rw [if_pos]
  rw [hlen]
  simp only [List.length_append, List.length_nil]
  omega

theorem rdCol_sound {c : Nat} {b : List UInt8} {k : Nat} {es es' : List Ev} {k' : Nat} (h : rdCol c b k es = some (es', k')) :
    ∃ xs r, xs.length = es.length ∧ (∀ x ∈ xs, fits c x = true) ∧ (∀ x ∈ xs, In64 x) ∧ es' = List.zipWith (colSet c) es xs ∧ b.drop k = numsBytes xs ++ r ∧ k' = k + (numsBytes xs).length := by
  obtain ⟨rs, r, g1, _, g3, g4, g5, g6, g7, g8⟩ := rdColF_sound c b _ k 0 0 0 es es' k' h
  have hin : ∀ d ∈ expand rs, In64 d := fun d hd => by
    obtain ⟨q, hq, hd⟩ := List.mem_flatMap.1 hd
    rw [(List.mem_replicate.1 hd).2]
    exact g4 q hq
  have hn : numsBytes (sums 0 (expand rs)) = encRuns rs := by
    unfold numsBytes
    rw [diffs_sums _ _ hin, runsOf_expand rs g1]
  exact ⟨sums 0 (expand rs), r, by rw [sums_length, g3], g5, sums_in _ _, g8, by rw [hn]; exact g6, by rw [hn]; exact g7⟩
theorem map_zip_same (c : Nat) : ∀ (es : List Ev) (xs : List Int), xs.length = es.length → (∀ x ∈ xs, fits c x = true) → (List.zipWith (colSet c) es xs).map (colGet c) = xs
  | [], [], _, _ => rfl
  | [], _ :: _, h, _ => by simp at h
  | _ :: _, [], h, _ => by simp at h
  | e :: es, x :: xs, h, hf => by
    rw [List.zipWith_cons_cons, List.map_cons, colGet_set (hf x (by simp)), map_zip_same c es xs (by simpa using h) fun y hy => hf y (by simp [hy])]
theorem map_zip_other {c d : Nat} (hc : c < 5) (hd : d < 5) (hcd : c ≠ d) : ∀ (es : List Ev) (xs : List Int), xs.length = es.length → (List.zipWith (colSet c) es xs).map (colGet d) = es.map (colGet d)
  | [], _, _ => by simp
  | _ :: _, [], h => by simp at h
  | e :: es, x :: xs, h => by
    rw [List.zipWith_cons_cons, List.map_cons, List.map_cons, colGet_other hc hd hcd, map_zip_other hc hd hcd es xs (by simpa using h)]
theorem rdDense_sound {b : List UInt8} {first : Nat} {es : List Ev} (h : rdDense b = some (first, es)) : first ≤ 4611686018427387904 ∧ 1 ≤ es.length ∧ es.length ≤ 1048576 ∧ (∀ e ∈ es, e.ok) ∧ b = denseOf first es := by
  unfold rdDense at h
  by_cases c1 : (rdBegin denseMark b).2.2 ≠ 0
  · rw [if_pos c1] at h; cases h
  rw [if_neg c1] at h
  obtain ⟨hfst, r, hr, hat⟩ := rdBegin_sound (mark := denseMark) (l := b) rfl (by omega)
  generalize rdBegin denseMark b = q at h hfst hr hat
  obtain ⟨f0, a, e0⟩ := q
  simp only at h hfst hr hat
  have hda : b.drop a = r := by
    conv => lhs; rw [hr, hat, List.drop_left]
  rw [hda] at h
  generalize hq : getU r = q at h
  obtain ⟨N, j, f⟩ := q
  simp only at h
  by_cases c2 : f ≠ 0 ∨ N = 0 ∨ 1048576 < N
  · rw [if_pos c2] at h; cases h
  rw [if_neg c2] at h
  have hf : f = 0 := by omega
  subst hf
  obtain ⟨r2, hr2, hj⟩ := getU_sound hq
  have hd1 : b.drop (a + j) = r2 := by
    rw [← List.drop_drop, hda, hr2, hj, List.drop_left]
  have hz := List.length_replicate (n := N) (a := Ev.zero)
  have hzo : ∀ e ∈ List.replicate N Ev.zero, e.ok := fun e he => by rw [(List.mem_replicate.1 he).2]; exact Ev.zero_ok
  generalize List.replicate N Ev.zero = z at h hz hzo
  simp only [rdCols] at h
  cases k0 : rdCol 0 b (a + j) z with
  | none => rw [k0] at h; cases h
  | some q0 =>
  obtain ⟨e1, p1⟩ := q0
  rw [k0] at h
  simp only at h
  cases k1 : rdCol 1 b p1 e1 with
  | none => rw [k1] at h; cases h
  | some q1 =>
  obtain ⟨e2, p2⟩ := q1
  rw [k1] at h
  simp only at h
  cases k2 : rdCol 2 b p2 e2 with
  | none => rw [k2] at h; cases h
  | some q2 =>
  obtain ⟨e3, p3⟩ := q2
  rw [k2] at h
  simp only at h
  cases k3 : rdCol 3 b p3 e3 with
  | none => rw [k3] at h; cases h
  | some q3 =>
  obtain ⟨e4, p4⟩ := q3
  rw [k3] at h
  simp only at h
  cases k4 : rdCol 4 b p4 e4 with
  | none => rw [k4] at h; cases h
  | some q4 =>
  obtain ⟨e5, p5⟩ := q4
  rw [k4] at h
  simp only at h
  by_cases c3 : p5 = b.length
  · rw [if_pos c3] at h
    simp only [Option.some.injEq, Prod.mk.injEq] at h
    obtain ⟨rfl, rfl⟩ := h
    have o1 := rdCol_ok hzo k0
    have o2 := rdCol_ok o1.2 k1
    have o3 := rdCol_ok o2.2 k2
    have o4 := rdCol_ok o3.2 k3
    have o5 := rdCol_ok o4.2 k4
    obtain ⟨x0, s0, l0, f0', i0, z0, d0, n0⟩ := rdCol_sound k0
    obtain ⟨x1, s1, l1, f1', i1, z1, d1, n1⟩ := rdCol_sound k1
    obtain ⟨x2, s2, l2, f2', i2, z2, d2, n2⟩ := rdCol_sound k2
    obtain ⟨x3, s3, l3, f3', i3, z3, d3, n3⟩ := rdCol_sound k3
    obtain ⟨x4, s4, l4, f4', i4, z4, d4, n4⟩ := rdCol_sound k4
    have m0 : e5.map (colGet 0) = x0 := by
      rw [z4, map_zip_other (by omega) (by omega) (by omega) e4 x4 l4, z3, map_zip_other (by omega) (by omega) (by omega) e3 x3 l3, z2, map_zip_other (by omega) (by omega) (by omega) e2 x2 l2,
        z1, map_zip_other (by omega) (by omega) (by omega) e1 x1 l1, z0, map_zip_same 0 z x0 l0 f0']
    have m1 : e5.map (colGet 1) = x1 := by
      rw [z4, map_zip_other (by omega) (by omega) (by omega) e4 x4 l4, z3, map_zip_other (by omega) (by omega) (by omega) e3 x3 l3, z2, map_zip_other (by omega) (by omega) (by omega) e2 x2 l2,
        z1, map_zip_same 1 e1 x1 l1 f1']
    have m2 : e5.map (colGet 2) = x2 := by
      rw [z4, map_zip_other (by omega) (by omega) (by omega) e4 x4 l4, z3, map_zip_other (by omega) (by omega) (by omega) e3 x3 l3, z2, map_zip_same 2 e2 x2 l2 f2']
    have m3 : e5.map (colGet 3) = x3 := by
      rw [z4, map_zip_other (by omega) (by omega) (by omega) e4 x4 l4, z3, map_zip_same 3 e3 x3 l3 f3']
    have m4 : e5.map (colGet 4) = x4 := by
      rw [z4, map_zip_same 4 e4 x4 l4 f4']
    have hN : e5.length = N := by rw [o5.1, o4.1, o3.1, o2.1, o1.1, hz]
    have w0 : s0 = b.drop p1 := by rw [n0]; exact (drop_next d0).symm
    have w1 : s1 = b.drop p2 := by rw [n1]; exact (drop_next d1).symm
    have w2 : s2 = b.drop p3 := by rw [n2]; exact (drop_next d2).symm
    have w3 : s3 = b.drop p4 := by rw [n3]; exact (drop_next d3).symm
    have w4 : s4 = [] := by
      have := drop_next d4
      rw [← n4, c3, List.drop_length] at this
      exact this.symm
    refine ⟨hfst, by omega, by omega, o5.2, ?_⟩
    rw [hr]
    unfold denseOf
    rw [hN]
    show _ = beginOf denseMark f0 ++ (uvarint N ++ ((((([] ++ numsBytes (e5.map (colGet 0))) ++ numsBytes (e5.map (colGet 1))) ++ numsBytes (e5.map (colGet 2))) ++ numsBytes (e5.map (colGet 3))) ++ numsBytes (e5.map (colGet 4))))
    rw [m0, m1, m2, m3, m4, hr2, ← hd1, d0, w0, d1, w1, d2, w2, d3, w3, d4, w4]
    simp only [List.append_nil, List.nil_append, List.append_assoc]
  · rw [if_neg c3] at h; cases h

/-- the number, the events, the error -/
def unpackOf (b : List UInt8) : Nat × List Ev × Nat :=
  if b.length < 4 then (0, [], 11)
  else if b.drop (b.length - 4) ≠ sumBytes (crc (b.take (b.length - 4))) then (0, [], 12)
  else match rdDense (b.take (b.length - 4)) with
    | none => (0, [], 10)
    | some r => (r.1, r.2, 0)
theorem unpackOf_sealed (m : List UInt8) : unpackOf (sealed m) = match rdDense m with
    | none => (0, [], 10)
    | some r => (r.1, r.2, 0) := by
  have hl : (sealed m).length = m.length + 4 := by unfold sealed; rw [List.length_append, sumBytes_length]
  have ht : (sealed m).take ((sealed m).length - 4) = m := by rw [hl, Nat.add_sub_cancel]; unfold sealed; rw [List.take_left]
  have hd : (sealed m).drop ((sealed m).length - 4) = sumBytes (crc m) := by rw [hl, Nat.add_sub_cancel]; unfold sealed; rw [List.drop_left]
  unfold unpackOf
  rw [if_neg (by omega), ht, hd, if_neg (by simp)]
theorem unpackOf_no {b : List UInt8} (h : ∀ m, b ≠ sealed m) : unpackOf b = (0, [], if b.length < 4 then 11 else 12) := by
  unfold unpackOf
  by_cases h4 : b.length < 4
  · rw [if_pos h4, if_pos h4]
  · rw [if_neg h4, if_neg h4, if_pos]
    intro hs
    apply h (b.take (b.length - 4))
    unfold sealed
    rw [← hs, List.take_append_drop]
theorem unpackOf_pack {first : Nat} {es : List Ev} (hf : first ≤ 4611686018427387904) (h1 : 1 ≤ es.length) (hm : es.length ≤ 1048576) (hok : ∀ e ∈ es, e.ok) : unpackOf (sealed (denseOf first es)) = (first, es, 0) := by
  rw [unpackOf_sealed, rdDense_enc hf h1 hm hok]
theorem unpackOf_sound {m : List UInt8} (h : (unpackOf (sealed m)).2.2 = 0) : (unpackOf (sealed m)).1 ≤ 4611686018427387904 ∧ 1 ≤ (unpackOf (sealed m)).2.1.length ∧ (unpackOf (sealed m)).2.1.length ≤ 1048576 ∧ (∀ e ∈ (unpackOf (sealed m)).2.1, e.ok) ∧ m = denseOf (unpackOf (sealed m)).1 (unpackOf (sealed m)).2.1 := by
  rw [unpackOf_sealed] at h ⊢
  cases hd : rdDense m with
  | none => rw [hd] at h; simp at h
  | some r => exact rdDense_sound hd
set_option maxRecDepth 100000 in
set_option maxHeartbeats 1000000 in
theorem Unpack_any (A : Option Addr) (n c : Nat) (b : List UInt8) (w : World) (h : IsB w A n c b) (hn : n ≤ 1000000) :
    Calls Try.prog 43 #[.slice A n c] w fun e w' => (∃ v, e = .returned (.tuple #[.int .i64 ((unpackOf b).1 : Int), v, .int .i64 ((unpackOf b).2.2 : Int)]) ∧ OwnE w' w.heap.size v (unpackOf b).2.1) ∧ Below w.heap.size w w' := by
  have HU := Lib.hid (unseal_any A n c b w h (by omega))
  have hlen := h.len
  obtain ⟨T, hT⟩ : ∃ t, Hid (unpackOf b = t) := ⟨_, rfl⟩
  rw [hT.out]
  clear h
  go_enter Try.func43, Try.ntmps43
  go_wp2_with fail
  refine HU.out.mono ?_
  rintro e w1 ⟨hO, hb1⟩
  have hz := hb1.size
  rcases hO with ⟨m, v, heq, rfl, hown⟩ | ⟨hno, rfl⟩
  · obtain ⟨A1, n1, c1, rfl, hI1⟩ := own_slice hown
    have hn1 := hI1.len
    have hn2 : n1 ≤ 1000000 := by
      rw [← hn1]
      have := congrArg List.length heq
      unfold sealed at this
      rw [List.length_append, sumBytes_length] at this
      omega
    have HP := Lib.hid (unpacked_any A1 n1 c1 m w1 hI1 hn2)
    have hT2 : Hid (T = match rdDense m with
      | none => (0, [], 10)
      | some r => (r.1, r.2, 0)) := by
      show _ = _
      rw [← hT.out, heq, unpackOf_sealed]
    have HB1 := Lib.hid hb1
    clear heq hown hI1 hn1 hb1 hT HU
    go_wp2_with fail
    refine HP.out.mono ?_
    rintro e w2 ⟨hres, hb2⟩
    have hB2 := HB1.out.trans (hb2.mono hz)
    rcases hres with ⟨hno, x, v, rfl⟩ | ⟨first, es, v, hyes, rfl, hOE⟩
    · have hT3 : Hid (T = (0, [], 10)) := by show _ = _; rw [hT2.out, hno]
      clear hno hT2 hb2
      go_wp2_with fail
      refine bodyPost_ret (v := .tuple #[.int .i64 0, .slice none 0 0, .int .i64 10]) (by simp [results, Try.results43, go_sem]) rfl ⟨⟨.slice none 0 0, by rw [hT3.out]; rfl, by rw [hT3.out]; exact OwnE.nil _ _⟩, hB2⟩
    · have hT3 : Hid (T = (first, es, 0)) := by show _ = _; rw [hT2.out, hyes]
      have hOE2 := hOE.mono (base' := w.heap.size) hz
      clear hyes hT2 hb2 hOE
      go_wp2_with fail
      refine bodyPost_ret (v := .tuple #[.int .i64 (first : Int), v, .int .i64 0]) (by simp [results, Try.results43, go_sem]) rfl ⟨⟨v, by rw [hT3.out]; rfl, by rw [hT3.out]; exact hOE2⟩, hB2⟩
  · obtain ⟨er, her⟩ : ∃ er : Int, Hid ((if b.length < 4 then (11 : Int) else 12) = er) := ⟨_, rfl⟩
    have hT3 : Hid (T = (0, [], if b.length < 4 then 11 else 12)) := by show _ = _; rw [← hT.out, unpackOf_no hno]
    have hne : (er != 0) = true := by
      rw [← her.out]
      split <;> rfl
    rw [her.out]
    clear hno hT
    go_wp2_with fail
    refine bodyPost_ret (v := .tuple #[.int .i64 0, .slice none 0 0, .int .i64 er]) (by simp [results, Try.results43, go_sem]) rfl ⟨⟨.slice none 0 0, ?_, by rw [hT3.out]; exact OwnE.nil _ _⟩, hb1⟩
    rw [hT3.out, ← her.out]
    split <;> rfl
end Go.Proofs.Ytiockkphciadeaa
