/-
  Sync, Remove, Rename, Cut as the document has them. (Made by dksync_gen.py.)
-/
import Derived.Test.YtebpdlggkncliaaK1
set_option linter.unusedVariables false
set_option linter.unusedSimpArgs false
namespace Go.Proofs.Ytebpdlggkncliaa
open Go.RowKit Go.Maps

theorem same_turned {w w' : World} {F : Nat → Prop} {a : Nat} {s : St} (h : Dk w F a s) (hb : Below w.heap.size w w') : Turned w F a w' s :=
  ⟨F, h.below hb, Away.of_new hb _, fun b hb => .inl hb⟩
theorem at_some {ms : List (Nm × Raw)} {nm : Nm} {c : Fc} (h : aget nm (amap Raw.c ms) = some c) : ∃ r, aget nm ms = some r ∧ r.c = c := by
  rw [aget_amap] at h
  exact Option.map_eq_some_iff.1 h
theorem at_none {ms : List (Nm × Raw)} {nm : Nm} (h : aget nm (amap Raw.c ms) = none) : aget nm ms = none := by
  rw [aget_amap] at h
  exact Option.map_eq_none_iff.1 h
theorem bst {w w1 w2 : World} (h : Below w.heap.size w w1) (h2 : Below w1.heap.size w1 w2) : Below w.heap.size w w2 := h.trans (h2.mono h.size)
theorem box_keep {W W1 : World} {a x : Nat} {o : Obj} (hx : W.heap[x]? = some o) (hA : Away (fun b => b = a) W W1) (hne : x ≠ a) : W1.heap[x]? = some o :=
  (hA.block x (Array.getElem?_eq_some_iff.1 hx).1 hne).trans hx
theorem foot_put {F : Nat → Prop} {n a mb : Nat} {ms : List (Nm × Raw)} {nm : Nm} {r : Raw} (h : ∀ b, Foot a mb ms b → F b ∨ n ≤ b) (hr : ∀ b, r.g = some b → F b ∨ n ≤ b) : ∀ b, Foot a mb (aput nm r ms) b → F b ∨ n ≤ b := by
  rintro b (rfl | rfl | ⟨p, hp, hg⟩)
  · exact h _ (.inl rfl)
  · exact h _ (.inr (.inl rfl))
  · rcases mem_aput.1 hp with rfl | ⟨hp, _⟩
    · exact hr b hg
    · exact h b (.inr (.inr ⟨p, hp, hg⟩))
theorem foot_del {F : Nat → Prop} {n a mb : Nat} {ms : List (Nm × Raw)} {nm : Nm} (h : ∀ b, Foot a mb ms b → F b ∨ n ≤ b) : ∀ b, Foot a mb (adel nm ms) b → F b ∨ n ≤ b := by
  rintro b (rfl | rfl | ⟨p, hp, hg⟩)
  · exact h _ (.inl rfl)
  · exact h _ (.inr (.inl rfl))
  · exact h b (.inr (.inr ⟨p, (mem_adel.1 hp).1, hg⟩))

set_option maxRecDepth 100000 in
set_option maxHeartbeats 1000000 in
theorem sync_any {w : World} {F : Nat → Prop} {a : Nat} {s : St} (h : Dk w F a s) (nm : ByteArray) (hnm : nm.size ≤ maxLen) :
    Calls Try.prog 14 #[.pointer (some ⟨a, 0, none⟩), .string nm] w fun e w' =>
      e = .returned (.int .i64 ((s.sync nm.data.toList).2 : Int)) ∧ Turned w F a w' (s.sync nm.data.toList).1 := by
  have hwf := h.1
  obtain ⟨_, hFl, mb, ms, lv, hp, hlv, hfs, hfoot⟩ := h
  have hB2 := ((Below.refl w.heap.size w).alloc (Nat.le_refl _) (.cells #[.pointer (some ⟨a, 0, none⟩)] 22)).alloc (by simp <;> omega) (.cells #[.string nm] 9)
  have hsz2 : ((w.alloc (.cells #[.pointer (some ⟨a, 0, none⟩)] 22)).alloc (.cells #[.string nm] 9)).heap.size = w.heap.size + 2 := by simp
  have hp2 := hp.away (Away.of_below hB2) (by have := hp.lt; omega) fun b hb => by have := hp.files.lt hb; omega
  have hal := hp.lt
  have hx0 : ((w.alloc (.cells #[.pointer (some ⟨a, 0, none⟩)] 22)).alloc (.cells #[.string nm] 9)).heap[w.heap.size]? = some (.cells #[.pointer (some ⟨a, 0, none⟩)] 22) := by
    have h0 : (w.alloc (.cells #[.pointer (some ⟨a, 0, none⟩)] 22)).heap[w.heap.size]? = some (.cells #[.pointer (some ⟨a, 0, none⟩)] 22) := heap_alloc_new w (.cells #[.pointer (some ⟨a, 0, none⟩)] 22)
    have h1 : w.heap.size = w.heap.size := by simp
    rw [h1] at h0
    have h0 := (heap_alloc_old (w.alloc (.cells #[.pointer (some ⟨a, 0, none⟩)] 22)) (.cells #[.string nm] 9) (by simp <;> omega)).trans h0
    exact h0
  have hx1 : ((w.alloc (.cells #[.pointer (some ⟨a, 0, none⟩)] 22)).alloc (.cells #[.string nm] 9)).heap[w.heap.size + 1]? = some (.cells #[.string nm] 9) := by
    have h0 : ((w.alloc (.cells #[.pointer (some ⟨a, 0, none⟩)] 22)).alloc (.cells #[.string nm] 9)).heap[(w.alloc (.cells #[.pointer (some ⟨a, 0, none⟩)] 22)).heap.size]? = some (.cells #[.string nm] 9) := heap_alloc_new (w.alloc (.cells #[.pointer (some ⟨a, 0, none⟩)] 22)) (.cells #[.string nm] 9)
    have h1 : (w.alloc (.cells #[.pointer (some ⟨a, 0, none⟩)] 22)).heap.size = w.heap.size + 1 := by simp
    rw [h1] at h0
    exact h0
  have hmf : ∀ (fn : Fn) (first cap : Array Value) (w : World), (Instr.makeFunc fn first cap).run Try.prog w = .ok (.func fn first cap) w := fun _ _ _ _ => rfl
  have HS : Hid (∀ w', Below w.heap.size w w' → Turned w F a w' s) := fun w' hb => same_turned ⟨hwf, hFl, mb, ms, lv, hp, hlv, hfs, hfoot⟩ hb
  have HX0 := Lib.hid hx0
  have HX1 := Lib.hid hx1
  have HSZ := Lib.hid hsz2
  have hus := used_of hfs
  clear hx0 hx1 hsz2
  by_cases hd : s.down = true
  · have HR : Hid (s.sync nm.data.toList = (s, 15)) := by show _ = _; unfold St.sync; rw [if_pos hd]
    rw [HR.out]
    rw [hd] at hp2
    clear hlv hfs hp hwf hus
    go_enter Try.func14, Try.ntmps14
    go_wp2_with fail
    refine (find_down hp2 nm).mono ?_
    rintro e w1 ⟨rfl, hb1⟩
    unfold Raw.zero Raw.val Raw.sl
    go_wp2_with fail
    go_ret
    exact ⟨rfl, HS.out _ ((bst hB2 hb1).alloc (bst hB2 hb1).size _)⟩
  · have hd : s.down = false := by simpa using hd
    cases hat : aget nm.data.toList s.fs with
    | none =>
      have HR : Hid (s.sync nm.data.toList = (s, 13)) := by show _ = _; unfold St.sync; rw [if_neg (by rw [hd]; simp), hat]
      rw [HR.out]
      rw [hd] at hp2
      rw [hfs] at hat
      have hat := at_none hat
      have hfd := find_none hp2 nm hnm hat
      clear hlv hfs hp hwf hat hd hus
      go_enter Try.func14, Try.ntmps14
      go_wp2_with fail
      refine hfd.mono ?_
      rintro e w1 ⟨rfl, hb1⟩
      unfold Raw.zero Raw.val Raw.sl
      go_wp2_with fail
      go_ret
      exact ⟨rfl, HS.out _ ((bst hB2 hb1).alloc (bst hB2 hb1).size _)⟩
    | some c =>
      have hat0 := hat
      rw [hfs] at hat
      obtain ⟨r, har, hrc⟩ := at_some hat
      have hrow := hp2.files.rows _ (aget_mem har)
      have hmem := aget_mem har
      have hgl : ∀ b, r.g = some b → b < w.heap.size := fun b hb => (hp.files.rows _ hmem).lt hb
      have hgF : ∀ b, r.g = some b → F b := fun b hb => hfoot b (.inr (.inr ⟨_, hmem, hb⟩))
      have hum : usedR ms ≤ 16777216 := by have := hwf.room; have := hwf.most; omega
      have hml : ms.length ≤ 1000 := by have := hwf.count; rw [hfs] at this; simp [amap] at this; omega
      have hcl0 : r.c.1.length ≤ 16777216 := by have := used_ge hwf hat0; rw [hrc]; omega
      rw [hd] at hp2
      have hfd := find_some hp2 nm hnm har
      rw [← hd] at hp2
      have hap : ∀ p ∈ ms, p.1 ≠ nm.data.toList → ∀ b, r.g = some b → p.2.g ≠ some b := fun p hp' hn b hb => hp.files.two hmem hp' (fun e => hn e.symm) hb
      have hwf2 : ({ s with fs := (fun fs => aput nm.data.toList (c.1, c.1.length) fs) s.fs } : St).wf := by have := St.put_wf hwf (nm := nm.data.toList) (c := (c.1, c.1.length)) (hwf.names _ (aget_mem hat0)) (Nat.le_refl _) (by have := hwf.room; rw [hat0]; simp; omega) (fun e => by rw [hat0] at e; cases e); exact this
      have HR : Hid (s.sync nm.data.toList = s.op fun fs => aput nm.data.toList (c.1, c.1.length) fs) := by show _ = _; unfold St.sync; rw [if_neg (by rw [hd]; simp), hat0]
      rw [HR.out]
      go_enter Try.func14, Try.ntmps14
      go_wp2_with fail
      refine hfd.mono ?_
      rintro e w1 ⟨rfl, hb1⟩
      have hB3 := bst hB2 hb1
      have hl1 : w.heap.size + 2 ≤ w1.heap.size := by rw [← HSZ.out]; exact hb1.size
      have hB4 := hB3.alloc hB3.size (.cells #[r.sl, .int .i64 (r.c.2 : Int)] 94)
      have bf : (w1.alloc (.cells #[r.sl, .int .i64 (r.c.2 : Int)] 94)).heap[w1.heap.size]? = some (.cells #[r.sl, .int .i64 (r.c.2 : Int)] 94) := heap_alloc_new w1 (.cells #[r.sl, .int .i64 (r.c.2 : Int)] 94)
      have b0 := heap_alloc_old w1 (.cells #[r.sl, .int .i64 (r.c.2 : Int)] 94) (show w.heap.size < w1.heap.size by omega) |>.trans ((hb1.block _ (by rw [HSZ.out]; omega)).trans HX0.out)
      have b1 := heap_alloc_old w1 (.cells #[r.sl, .int .i64 (r.c.2 : Int)] 94) (show w.heap.size + 1 < w1.heap.size by omega) |>.trans ((hb1.block _ (by rw [HSZ.out]; omega)).trans HX1.out)
      have e0 : (w1.alloc (.cells #[r.sl, .int .i64 (r.c.2 : Int)] 94)).cell? ⟨w.heap.size, 0, none⟩ = some (.pointer (some ⟨a, 0, none⟩)) := cell_of_row _ _ 0 _ _ _ b0
      have e1 : (w1.alloc (.cells #[r.sl, .int .i64 (r.c.2 : Int)] 94)).cell? ⟨w.heap.size + 1, 0, none⟩ = some (.string nm) := cell_of_row _ _ 0 _ _ _ b1
      have hp4 := hp.away (Away.of_below hB4) (by omega) fun b hb => by have := hp.files.lt hb; omega
      have hr4 := (hp.files.rows _ hmem).away (Away.of_below hB4) fun b hb => by have := hgl b hb; omega
      have HC : Hid (Calls Try.prog 63 #[.pointer (some ⟨a, 0, none⟩), .func (.func 70) #[] #[.pointer (some ⟨w1.heap.size, 0, none⟩), .pointer (some ⟨w.heap.size, 0, none⟩), .pointer (some ⟨w.heap.size + 1, 0, none⟩)]] (w1.alloc (.cells #[r.sl, .int .i64 (r.c.2 : Int)] 94)) fun e W' =>
          e = .returned (.int .i64 ((s.op fun fs => aput nm.data.toList (c.1, c.1.length) fs).2 : Int)) ∧ Turned w F a W' (s.op fun fs => aput nm.data.toList (c.1, c.1.length) fs).1) := by
        refine op_Sync hwf hd hp4 hlv hfs (Away.of_new hB4 F) hfoot _ hwf2 ⟨w1.heap.size, 0, none⟩ ⟨w.heap.size, 0, none⟩ ⟨w.heap.size + 1, 0, none⟩ fun W1 armed lv1 hP1 hA1 => ?_
        have k := fun (x : Nat) (o : Obj) (hx : (w1.alloc (.cells #[r.sl, .int .i64 (r.c.2 : Int)] 94)).heap[x]? = some o) (hn : w.heap.size ≤ x) => box_keep hx hA1 (by omega)
        have hr5 := hr4.away hA1 fun b hb => (hp4.ne_row hr4 hb).1
        refine (cl_sync hP1 hnm (k _ _ bf (by omega)) (k _ _ b0 (by omega)) (k _ _ b1 (by omega)) hr5 hap hum hml hcl0).mono ?_
        rintro e W' ⟨rfl, hP', hA'⟩
        refine ⟨rfl, _, ?_, hP', hA'.mono fun b _ e => ?_, foot_put (fun b hb => .inl (hfoot b hb)) fun b hb => .inl (hgF b hb)⟩
        · rw [amap_aput, hfs, ← hrc]
        · rcases e with e | e | e
          · exact .inl (hfoot b (.inl e))
          · exact .inl (hfoot b (.inr (.inl e)))
          · exact .inr (by omega)
      have hvf : r.val = .agg #[.slice (r.g.map fun b => ⟨b, 0, none⟩) r.c.1.length r.cap, .int .i64 (r.c.2 : Int)] := rfl
      have hof : ((.cells #[r.sl, .int .i64 (r.c.2 : Int)] 94) : Obj) = .cells #[.slice (r.g.map fun b => ⟨b, 0, none⟩) r.c.1.length r.cap, .int .i64 (r.c.2 : Int)] 94 := rfl
      rw [hof] at HC e0 e1
      rw [hvf]
      clear hvf hof hat0 hat har hrc hrow hp2 hB4 bf b0 b1 hp4 hr4 hfd hp hlv hfs
      go_wp2_with fail
      refine HC.out.mono ?_
      rintro e w' ⟨rfl, hT⟩
      go_wp2_with fail
      go_ret
      exact ⟨rfl, hT⟩


set_option maxRecDepth 100000 in
set_option maxHeartbeats 1000000 in
theorem remove_any {w : World} {F : Nat → Prop} {a : Nat} {s : St} (h : Dk w F a s) (nm : ByteArray) (hnm : nm.size ≤ maxLen) :
    Calls Try.prog 15 #[.pointer (some ⟨a, 0, none⟩), .string nm] w fun e w' =>
      e = .returned (.int .i64 ((s.remove nm.data.toList).2 : Int)) ∧ Turned w F a w' (s.remove nm.data.toList).1 := by
  have hwf := h.1
  obtain ⟨_, hFl, mb, ms, lv, hp, hlv, hfs, hfoot⟩ := h
  have hB2 := ((Below.refl w.heap.size w).alloc (Nat.le_refl _) (.cells #[.pointer (some ⟨a, 0, none⟩)] 22)).alloc (by simp <;> omega) (.cells #[.string nm] 9)
  have hsz2 : ((w.alloc (.cells #[.pointer (some ⟨a, 0, none⟩)] 22)).alloc (.cells #[.string nm] 9)).heap.size = w.heap.size + 2 := by simp
  have hp2 := hp.away (Away.of_below hB2) (by have := hp.lt; omega) fun b hb => by have := hp.files.lt hb; omega
  have hal := hp.lt
  have hx0 : ((w.alloc (.cells #[.pointer (some ⟨a, 0, none⟩)] 22)).alloc (.cells #[.string nm] 9)).heap[w.heap.size]? = some (.cells #[.pointer (some ⟨a, 0, none⟩)] 22) := by
    have h0 : (w.alloc (.cells #[.pointer (some ⟨a, 0, none⟩)] 22)).heap[w.heap.size]? = some (.cells #[.pointer (some ⟨a, 0, none⟩)] 22) := heap_alloc_new w (.cells #[.pointer (some ⟨a, 0, none⟩)] 22)
    have h1 : w.heap.size = w.heap.size := by simp
    rw [h1] at h0
    have h0 := (heap_alloc_old (w.alloc (.cells #[.pointer (some ⟨a, 0, none⟩)] 22)) (.cells #[.string nm] 9) (by simp <;> omega)).trans h0
    exact h0
  have hx1 : ((w.alloc (.cells #[.pointer (some ⟨a, 0, none⟩)] 22)).alloc (.cells #[.string nm] 9)).heap[w.heap.size + 1]? = some (.cells #[.string nm] 9) := by
    have h0 : ((w.alloc (.cells #[.pointer (some ⟨a, 0, none⟩)] 22)).alloc (.cells #[.string nm] 9)).heap[(w.alloc (.cells #[.pointer (some ⟨a, 0, none⟩)] 22)).heap.size]? = some (.cells #[.string nm] 9) := heap_alloc_new (w.alloc (.cells #[.pointer (some ⟨a, 0, none⟩)] 22)) (.cells #[.string nm] 9)
    have h1 : (w.alloc (.cells #[.pointer (some ⟨a, 0, none⟩)] 22)).heap.size = w.heap.size + 1 := by simp
    rw [h1] at h0
    exact h0
  have hmf : ∀ (fn : Fn) (first cap : Array Value) (w : World), (Instr.makeFunc fn first cap).run Try.prog w = .ok (.func fn first cap) w := fun _ _ _ _ => rfl
  have HS : Hid (∀ w', Below w.heap.size w w' → Turned w F a w' s) := fun w' hb => same_turned ⟨hwf, hFl, mb, ms, lv, hp, hlv, hfs, hfoot⟩ hb
  have HX0 := Lib.hid hx0
  have HX1 := Lib.hid hx1
  have HSZ := Lib.hid hsz2
  have hus := used_of hfs
  clear hx0 hx1 hsz2
  by_cases hd : s.down = true
  · have HR : Hid (s.remove nm.data.toList = (s, 15)) := by show _ = _; unfold St.remove; rw [if_pos hd]
    rw [HR.out]
    rw [hd] at hp2
    clear hlv hfs hp hwf hus
    go_enter Try.func15, Try.ntmps15
    go_wp2_with fail
    refine (find_down hp2 nm).mono ?_
    rintro e w1 ⟨rfl, hb1⟩
    unfold Raw.zero Raw.val Raw.sl
    go_wp2_with fail
    go_ret
    exact ⟨rfl, HS.out _ ((bst hB2 hb1).alloc (bst hB2 hb1).size _)⟩
  · have hd : s.down = false := by simpa using hd
    cases hat : aget nm.data.toList s.fs with
    | none =>
      have HR : Hid (s.remove nm.data.toList = (s, 13)) := by show _ = _; unfold St.remove; rw [if_neg (by rw [hd]; simp), hat]
      rw [HR.out]
      rw [hd] at hp2
      rw [hfs] at hat
      have hat := at_none hat
      have hfd := find_none hp2 nm hnm hat
      clear hlv hfs hp hwf hat hd hus
      go_enter Try.func15, Try.ntmps15
      go_wp2_with fail
      refine hfd.mono ?_
      rintro e w1 ⟨rfl, hb1⟩
      unfold Raw.zero Raw.val Raw.sl
      go_wp2_with fail
      go_ret
      exact ⟨rfl, HS.out _ ((bst hB2 hb1).alloc (bst hB2 hb1).size _)⟩
    | some c =>
      have hat0 := hat
      rw [hfs] at hat
      obtain ⟨r, har, hrc⟩ := at_some hat
      have hrow := hp2.files.rows _ (aget_mem har)
      have hmem := aget_mem har
      have hgl : ∀ b, r.g = some b → b < w.heap.size := fun b hb => (hp.files.rows _ hmem).lt hb
      have hgF : ∀ b, r.g = some b → F b := fun b hb => hfoot b (.inr (.inr ⟨_, hmem, hb⟩))
      have hum : usedR ms ≤ 16777216 := by have := hwf.room; have := hwf.most; omega
      have hml : ms.length ≤ 1000 := by have := hwf.count; rw [hfs] at this; simp [amap] at this; omega
      have hcl0 : r.c.1.length ≤ 16777216 := by have := used_ge hwf hat0; rw [hrc]; omega
      rw [hd] at hp2
      have hfd := find_some hp2 nm hnm har
      rw [← hd] at hp2
      have hap : ∀ p ∈ ms, p.1 ≠ nm.data.toList → ∀ b, r.g = some b → p.2.g ≠ some b := fun p hp' hn b hb => hp.files.two hmem hp' (fun e => hn e.symm) hb
      have hwf2 : ({ s with fs := (fun fs => adel nm.data.toList fs) s.fs } : St).wf := St.del_wf hwf _
      have HR : Hid (s.remove nm.data.toList = s.op fun fs => adel nm.data.toList fs) := by show _ = _; unfold St.remove; rw [if_neg (by rw [hd]; simp), hat0]
      rw [HR.out]
      go_enter Try.func15, Try.ntmps15
      go_wp2_with fail
      refine hfd.mono ?_
      rintro e w1 ⟨rfl, hb1⟩
      have hB3 := bst hB2 hb1
      have hl1 : w.heap.size + 2 ≤ w1.heap.size := by rw [← HSZ.out]; exact hb1.size
      have hB4 := hB3.alloc hB3.size (.cells #[r.sl, .int .i64 (r.c.2 : Int)] 94)
      have bf : (w1.alloc (.cells #[r.sl, .int .i64 (r.c.2 : Int)] 94)).heap[w1.heap.size]? = some (.cells #[r.sl, .int .i64 (r.c.2 : Int)] 94) := heap_alloc_new w1 (.cells #[r.sl, .int .i64 (r.c.2 : Int)] 94)
      have b0 := heap_alloc_old w1 (.cells #[r.sl, .int .i64 (r.c.2 : Int)] 94) (show w.heap.size < w1.heap.size by omega) |>.trans ((hb1.block _ (by rw [HSZ.out]; omega)).trans HX0.out)
      have b1 := heap_alloc_old w1 (.cells #[r.sl, .int .i64 (r.c.2 : Int)] 94) (show w.heap.size + 1 < w1.heap.size by omega) |>.trans ((hb1.block _ (by rw [HSZ.out]; omega)).trans HX1.out)
      have e0 : (w1.alloc (.cells #[r.sl, .int .i64 (r.c.2 : Int)] 94)).cell? ⟨w.heap.size, 0, none⟩ = some (.pointer (some ⟨a, 0, none⟩)) := cell_of_row _ _ 0 _ _ _ b0
      have e1 : (w1.alloc (.cells #[r.sl, .int .i64 (r.c.2 : Int)] 94)).cell? ⟨w.heap.size + 1, 0, none⟩ = some (.string nm) := cell_of_row _ _ 0 _ _ _ b1
      have hp4 := hp.away (Away.of_below hB4) (by omega) fun b hb => by have := hp.files.lt hb; omega
      have hr4 := (hp.files.rows _ hmem).away (Away.of_below hB4) fun b hb => by have := hgl b hb; omega
      have HC : Hid (Calls Try.prog 63 #[.pointer (some ⟨a, 0, none⟩), .func (.func 71) #[] #[.pointer (some ⟨w.heap.size, 0, none⟩), .pointer (some ⟨w.heap.size + 1, 0, none⟩)]] (w1.alloc (.cells #[r.sl, .int .i64 (r.c.2 : Int)] 94)) fun e W' =>
          e = .returned (.int .i64 ((s.op fun fs => adel nm.data.toList fs).2 : Int)) ∧ Turned w F a W' (s.op fun fs => adel nm.data.toList fs).1) := by
        refine op_Remove hwf hd hp4 hlv hfs (Away.of_new hB4 F) hfoot _ hwf2 ⟨w.heap.size, 0, none⟩ ⟨w.heap.size + 1, 0, none⟩ fun W1 armed lv1 hP1 hA1 => ?_
        have k := fun (x : Nat) (o : Obj) (hx : (w1.alloc (.cells #[r.sl, .int .i64 (r.c.2 : Int)] 94)).heap[x]? = some o) (hn : w.heap.size ≤ x) => box_keep hx hA1 (by omega)
        have hr5 := hr4.away hA1 fun b hb => (hp4.ne_row hr4 hb).1
        refine (cl_remove hP1 hnm (k _ _ b0 (by omega)) (k _ _ b1 (by omega)) hum).mono ?_
        rintro e W' ⟨rfl, hP', hA'⟩
        refine ⟨rfl, _, ?_, hP', hA'.mono fun b _ e => ?_, foot_del fun b hb => .inl (hfoot b hb)⟩
        · rw [amap_adel, hfs]
        · rcases e with e | e
          · exact .inl (hfoot b (.inl e))
          · exact .inl (hfoot b (.inr (.inl e)))
      have hvf : r.val = .agg #[.slice (r.g.map fun b => ⟨b, 0, none⟩) r.c.1.length r.cap, .int .i64 (r.c.2 : Int)] := rfl
      have hof : ((.cells #[r.sl, .int .i64 (r.c.2 : Int)] 94) : Obj) = .cells #[.slice (r.g.map fun b => ⟨b, 0, none⟩) r.c.1.length r.cap, .int .i64 (r.c.2 : Int)] 94 := rfl
      rw [hof] at HC e0 e1
      rw [hvf]
      clear hvf hof hat0 hat har hrc hrow hp2 hB4 bf b0 b1 hp4 hr4 hfd hp hlv hfs
      go_wp2_with fail
      refine HC.out.mono ?_
      rintro e w' ⟨rfl, hT⟩
      go_wp2_with fail
      go_ret
      exact ⟨rfl, hT⟩


theorem rename_wf' {s : St} (h : s.wf) {a b : Nm} {c : Fc} (hg : aget a s.fs = some c) (hr : rightN b = true) : ({ s with fs := aput b c (adel a s.fs) } : St).wf := by
  have hdel := St.del_wf h a
  have hu := asum_adel (g := fun c : Fc => c.1.length) h.rise a
  have hk := alen_adel h.rise a
  rw [hg] at hu hk
  refine St.put_wf (s := { s with fs := adel a s.fs }) hdel hr (h.safe _ (aget_mem hg)) ?_ ?_
  · have := h.room
    unfold St.used at this
    show asum (fun c : Fc => c.1.length) (adel a s.fs) + c.1.length ≤ s.most + ((aget b (adel a s.fs)).getD ([], 0)).1.length
    simp at hu
    omega
  · intro _
    have := h.count
    show (adel a s.fs).length < 200
    simp at hk
    omega

set_option maxRecDepth 100000 in
set_option maxHeartbeats 1000000 in
theorem rename_any {w : World} {F : Nat → Prop} {a : Nat} {s : St} (h : Dk w F a s) (nm : ByteArray) (hnm : nm.size ≤ maxLen) (tm : ByteArray) (htm : tm.size ≤ maxLen) :
    Calls Try.prog 16 #[.pointer (some ⟨a, 0, none⟩), .string nm, .string tm] w fun e w' =>
      e = .returned (.int .i64 ((s.rename nm.data.toList tm.data.toList).2 : Int)) ∧ Turned w F a w' (s.rename nm.data.toList tm.data.toList).1 := by
  have hwf := h.1
  obtain ⟨_, hFl, mb, ms, lv, hp, hlv, hfs, hfoot⟩ := h
  have hB2 := (((Below.refl w.heap.size w).alloc (Nat.le_refl _) (.cells #[.pointer (some ⟨a, 0, none⟩)] 22)).alloc (by simp <;> omega) (.cells #[.string nm] 9)).alloc (by simp <;> omega) (.cells #[.string tm] 9)
  have hsz2 : (((w.alloc (.cells #[.pointer (some ⟨a, 0, none⟩)] 22)).alloc (.cells #[.string nm] 9)).alloc (.cells #[.string tm] 9)).heap.size = w.heap.size + 3 := by simp
  have hp2 := hp.away (Away.of_below hB2) (by have := hp.lt; omega) fun b hb => by have := hp.files.lt hb; omega
  have hal := hp.lt
  have hx0 : (((w.alloc (.cells #[.pointer (some ⟨a, 0, none⟩)] 22)).alloc (.cells #[.string nm] 9)).alloc (.cells #[.string tm] 9)).heap[w.heap.size]? = some (.cells #[.pointer (some ⟨a, 0, none⟩)] 22) := by
    have h0 : (w.alloc (.cells #[.pointer (some ⟨a, 0, none⟩)] 22)).heap[w.heap.size]? = some (.cells #[.pointer (some ⟨a, 0, none⟩)] 22) := heap_alloc_new w (.cells #[.pointer (some ⟨a, 0, none⟩)] 22)
    have h1 : w.heap.size = w.heap.size := by simp
    rw [h1] at h0
    have h0 := (heap_alloc_old (w.alloc (.cells #[.pointer (some ⟨a, 0, none⟩)] 22)) (.cells #[.string nm] 9) (by simp <;> omega)).trans h0
    have h0 := (heap_alloc_old ((w.alloc (.cells #[.pointer (some ⟨a, 0, none⟩)] 22)).alloc (.cells #[.string nm] 9)) (.cells #[.string tm] 9) (by simp <;> omega)).trans h0
    exact h0
  have hx1 : (((w.alloc (.cells #[.pointer (some ⟨a, 0, none⟩)] 22)).alloc (.cells #[.string nm] 9)).alloc (.cells #[.string tm] 9)).heap[w.heap.size + 1]? = some (.cells #[.string nm] 9) := by
    have h0 : ((w.alloc (.cells #[.pointer (some ⟨a, 0, none⟩)] 22)).alloc (.cells #[.string nm] 9)).heap[(w.alloc (.cells #[.pointer (some ⟨a, 0, none⟩)] 22)).heap.size]? = some (.cells #[.string nm] 9) := heap_alloc_new (w.alloc (.cells #[.pointer (some ⟨a, 0, none⟩)] 22)) (.cells #[.string nm] 9)
    have h1 : (w.alloc (.cells #[.pointer (some ⟨a, 0, none⟩)] 22)).heap.size = w.heap.size + 1 := by simp
    rw [h1] at h0
    have h0 := (heap_alloc_old ((w.alloc (.cells #[.pointer (some ⟨a, 0, none⟩)] 22)).alloc (.cells #[.string nm] 9)) (.cells #[.string tm] 9) (by simp <;> omega)).trans h0
    exact h0
  have hx2 : (((w.alloc (.cells #[.pointer (some ⟨a, 0, none⟩)] 22)).alloc (.cells #[.string nm] 9)).alloc (.cells #[.string tm] 9)).heap[w.heap.size + 2]? = some (.cells #[.string tm] 9) := by
    have h0 : (((w.alloc (.cells #[.pointer (some ⟨a, 0, none⟩)] 22)).alloc (.cells #[.string nm] 9)).alloc (.cells #[.string tm] 9)).heap[((w.alloc (.cells #[.pointer (some ⟨a, 0, none⟩)] 22)).alloc (.cells #[.string nm] 9)).heap.size]? = some (.cells #[.string tm] 9) := heap_alloc_new ((w.alloc (.cells #[.pointer (some ⟨a, 0, none⟩)] 22)).alloc (.cells #[.string nm] 9)) (.cells #[.string tm] 9)
    have h1 : ((w.alloc (.cells #[.pointer (some ⟨a, 0, none⟩)] 22)).alloc (.cells #[.string nm] 9)).heap.size = w.heap.size + 2 := by simp
    rw [h1] at h0
    exact h0
  have hmf : ∀ (fn : Fn) (first cap : Array Value) (w : World), (Instr.makeFunc fn first cap).run Try.prog w = .ok (.func fn first cap) w := fun _ _ _ _ => rfl
  have HS : Hid (∀ w', Below w.heap.size w w' → Turned w F a w' s) := fun w' hb => same_turned ⟨hwf, hFl, mb, ms, lv, hp, hlv, hfs, hfoot⟩ hb
  have HX0 := Lib.hid hx0
  have HX1 := Lib.hid hx1
  have HX2 := Lib.hid hx2
  have HSZ := Lib.hid hsz2
  have hus := used_of hfs
  clear hx0 hx1 hx2 hsz2
  by_cases hd : s.down = true
  · have HR : Hid (s.rename nm.data.toList tm.data.toList = (s, 15)) := by show _ = _; unfold St.rename; rw [if_pos hd]
    rw [HR.out]
    rw [hd] at hp2
    clear hlv hfs hp hwf hus
    go_enter Try.func16, Try.ntmps16
    go_wp2_with fail
    refine (find_down hp2 nm).mono ?_
    rintro e w1 ⟨rfl, hb1⟩
    unfold Raw.zero Raw.val Raw.sl
    go_wp2_with fail
    go_ret
    exact ⟨rfl, HS.out _ ((bst hB2 hb1).alloc (bst hB2 hb1).size _)⟩
  · have hd : s.down = false := by simpa using hd
    cases hat : aget nm.data.toList s.fs with
    | none =>
      have HR : Hid (s.rename nm.data.toList tm.data.toList = (s, 13)) := by show _ = _; unfold St.rename; rw [if_neg (by rw [hd]; simp), hat]
      rw [HR.out]
      rw [hd] at hp2
      rw [hfs] at hat
      have hat := at_none hat
      have hfd := find_none hp2 nm hnm hat
      clear hlv hfs hp hwf hat hd hus
      go_enter Try.func16, Try.ntmps16
      go_wp2_with fail
      refine hfd.mono ?_
      rintro e w1 ⟨rfl, hb1⟩
      unfold Raw.zero Raw.val Raw.sl
      go_wp2_with fail
      go_ret
      exact ⟨rfl, HS.out _ ((bst hB2 hb1).alloc (bst hB2 hb1).size _)⟩
    | some c =>
      have hat0 := hat
      rw [hfs] at hat
      obtain ⟨r, har, hrc⟩ := at_some hat
      have hrow := hp2.files.rows _ (aget_mem har)
      have hmem := aget_mem har
      have hgl : ∀ b, r.g = some b → b < w.heap.size := fun b hb => (hp.files.rows _ hmem).lt hb
      have hgF : ∀ b, r.g = some b → F b := fun b hb => hfoot b (.inr (.inr ⟨_, hmem, hb⟩))
      have hum : usedR ms ≤ 16777216 := by have := hwf.room; have := hwf.most; omega
      have hml : ms.length ≤ 1000 := by have := hwf.count; rw [hfs] at this; simp [amap] at this; omega
      have hcl0 : r.c.1.length ≤ 16777216 := by have := used_ge hwf hat0; rw [hrc]; omega
      rw [hd] at hp2
      have hfd := find_some hp2 nm hnm har
      rw [← hd] at hp2
      have hap : ∀ p ∈ ms, p.1 ≠ nm.data.toList → ∀ b, r.g = some b → p.2.g ≠ some b := fun p hp' hn b hb => hp.files.two hmem hp' (fun e => hn e.symm) hb
      cases hrt : rightN tm.data.toList with
      | false =>
        have HR : Hid (s.rename nm.data.toList tm.data.toList = (s, 13)) := by show _ = _; unfold St.rename; rw [if_neg (by rw [hd]; simp), hat0]; simp only []; rw [if_pos hrt]
        rw [HR.out]
        go_enter Try.func16, Try.ntmps16
        go_wp2_with fail
        refine hfd.mono ?_
        rintro e w1 ⟨rfl, hb1⟩
        have hB3 := bst hB2 hb1
        have hl1 : w.heap.size + 3 ≤ w1.heap.size := by rw [← HSZ.out]; exact hb1.size
        have hB4 := hB3.alloc hB3.size (.cells #[r.sl, .int .i64 (r.c.2 : Int)] 94)
        have b0 := heap_alloc_old w1 (.cells #[r.sl, .int .i64 (r.c.2 : Int)] 94) (show w.heap.size < w1.heap.size by omega) |>.trans ((hb1.block _ (by rw [HSZ.out]; omega)).trans HX0.out)
        have b1 := heap_alloc_old w1 (.cells #[r.sl, .int .i64 (r.c.2 : Int)] 94) (show w.heap.size + 1 < w1.heap.size by omega) |>.trans ((hb1.block _ (by rw [HSZ.out]; omega)).trans HX1.out)
        have b2 := heap_alloc_old w1 (.cells #[r.sl, .int .i64 (r.c.2 : Int)] 94) (show w.heap.size + 2 < w1.heap.size by omega) |>.trans ((hb1.block _ (by rw [HSZ.out]; omega)).trans HX2.out)
        have e0 : (w1.alloc (.cells #[r.sl, .int .i64 (r.c.2 : Int)] 94)).cell? ⟨w.heap.size, 0, none⟩ = some (.pointer (some ⟨a, 0, none⟩)) := cell_of_row _ _ 0 _ _ _ b0
        have e1 : (w1.alloc (.cells #[r.sl, .int .i64 (r.c.2 : Int)] 94)).cell? ⟨w.heap.size + 1, 0, none⟩ = some (.string nm) := cell_of_row _ _ 0 _ _ _ b1
        have e2 : (w1.alloc (.cells #[r.sl, .int .i64 (r.c.2 : Int)] 94)).cell? ⟨w.heap.size + 2, 0, none⟩ = some (.string tm) := cell_of_row _ _ 0 _ _ _ b2
        have hvf : r.val = .agg #[.slice (r.g.map fun b => ⟨b, 0, none⟩) r.c.1.length r.cap, .int .i64 (r.c.2 : Int)] := rfl
        have hof : ((.cells #[r.sl, .int .i64 (r.c.2 : Int)] 94) : Obj) = .cells #[.slice (r.g.map fun b => ⟨b, 0, none⟩) r.c.1.length r.cap, .int .i64 (r.c.2 : Int)] 94 := rfl
        rw [hof] at hB4 e0 e1 e2
        rw [hvf]
        clear hvf hof hat0 hat har hrc hrow hp2 b0 b1 b2 hfd hp hlv hfs
        go_wp2_with fail
        refine (right_any tm htm _).mono ?_
        rintro e w2 ⟨rfl, rfl⟩
        rw [hrt]
        go_wp2_with fail
        go_ret
        exact ⟨rfl, HS.out _ hB4⟩
      | true =>
        have hwf2 : ({ s with fs := (fun fs => aput tm.data.toList c (adel nm.data.toList fs)) s.fs } : St).wf := rename_wf' hwf hat0 hrt
        have HR : Hid (s.rename nm.data.toList tm.data.toList = s.op fun fs => aput tm.data.toList c (adel nm.data.toList fs)) := by show _ = _; unfold St.rename; rw [if_neg (by rw [hd]; simp), hat0]; simp only []; rw [if_neg (by rw [hrt]; simp)]
        rw [HR.out]
        go_enter Try.func16, Try.ntmps16
        go_wp2_with fail
        refine hfd.mono ?_
        rintro e w1 ⟨rfl, hb1⟩
        have hB3 := bst hB2 hb1
        have hl1 : w.heap.size + 3 ≤ w1.heap.size := by rw [← HSZ.out]; exact hb1.size
        have hB4 := hB3.alloc hB3.size (.cells #[r.sl, .int .i64 (r.c.2 : Int)] 94)
        have bf : (w1.alloc (.cells #[r.sl, .int .i64 (r.c.2 : Int)] 94)).heap[w1.heap.size]? = some (.cells #[r.sl, .int .i64 (r.c.2 : Int)] 94) := heap_alloc_new w1 (.cells #[r.sl, .int .i64 (r.c.2 : Int)] 94)
        have b0 := heap_alloc_old w1 (.cells #[r.sl, .int .i64 (r.c.2 : Int)] 94) (show w.heap.size < w1.heap.size by omega) |>.trans ((hb1.block _ (by rw [HSZ.out]; omega)).trans HX0.out)
        have b1 := heap_alloc_old w1 (.cells #[r.sl, .int .i64 (r.c.2 : Int)] 94) (show w.heap.size + 1 < w1.heap.size by omega) |>.trans ((hb1.block _ (by rw [HSZ.out]; omega)).trans HX1.out)
        have b2 := heap_alloc_old w1 (.cells #[r.sl, .int .i64 (r.c.2 : Int)] 94) (show w.heap.size + 2 < w1.heap.size by omega) |>.trans ((hb1.block _ (by rw [HSZ.out]; omega)).trans HX2.out)
        have e0 : (w1.alloc (.cells #[r.sl, .int .i64 (r.c.2 : Int)] 94)).cell? ⟨w.heap.size, 0, none⟩ = some (.pointer (some ⟨a, 0, none⟩)) := cell_of_row _ _ 0 _ _ _ b0
        have e1 : (w1.alloc (.cells #[r.sl, .int .i64 (r.c.2 : Int)] 94)).cell? ⟨w.heap.size + 1, 0, none⟩ = some (.string nm) := cell_of_row _ _ 0 _ _ _ b1
        have e2 : (w1.alloc (.cells #[r.sl, .int .i64 (r.c.2 : Int)] 94)).cell? ⟨w.heap.size + 2, 0, none⟩ = some (.string tm) := cell_of_row _ _ 0 _ _ _ b2
        have hp4 := hp.away (Away.of_below hB4) (by omega) fun b hb => by have := hp.files.lt hb; omega
        have hr4 := (hp.files.rows _ hmem).away (Away.of_below hB4) fun b hb => by have := hgl b hb; omega
        have HC : Hid (Calls Try.prog 63 #[.pointer (some ⟨a, 0, none⟩), .func (.func 73) #[] #[.pointer (some ⟨w.heap.size, 0, none⟩), .pointer (some ⟨w.heap.size + 1, 0, none⟩), .pointer (some ⟨w.heap.size + 2, 0, none⟩), .pointer (some ⟨w1.heap.size, 0, none⟩)]] (w1.alloc (.cells #[r.sl, .int .i64 (r.c.2 : Int)] 94)) fun e W' =>
            e = .returned (.int .i64 ((s.op fun fs => aput tm.data.toList c (adel nm.data.toList fs)).2 : Int)) ∧ Turned w F a W' (s.op fun fs => aput tm.data.toList c (adel nm.data.toList fs)).1) := by
          refine op_Rename hwf hd hp4 hlv hfs (Away.of_new hB4 F) hfoot _ hwf2 ⟨w.heap.size, 0, none⟩ ⟨w.heap.size + 1, 0, none⟩ ⟨w.heap.size + 2, 0, none⟩ ⟨w1.heap.size, 0, none⟩ fun W1 armed lv1 hP1 hA1 => ?_
          have k := fun (x : Nat) (o : Obj) (hx : (w1.alloc (.cells #[r.sl, .int .i64 (r.c.2 : Int)] 94)).heap[x]? = some o) (hn : w.heap.size ≤ x) => box_keep hx hA1 (by omega)
          have hr5 := hr4.away hA1 fun b hb => (hp4.ne_row hr4 hb).1
          refine (cl_rename hP1 hnm htm (k _ _ bf (by omega)) (k _ _ b0 (by omega)) (k _ _ b1 (by omega)) (k _ _ b2 (by omega)) har hum hml).mono ?_
          rintro e W' ⟨rfl, hP', hA'⟩
          refine ⟨rfl, _, ?_, hP', hA'.mono fun b _ e => ?_, foot_put (foot_del fun b hb => .inl (hfoot b hb)) fun b hb => .inl (hgF b hb)⟩
          · rw [amap_aput, amap_adel, hfs, ← hrc]
          · rcases e with e | e
            · exact .inl (hfoot b (.inl e))
            · exact .inl (hfoot b (.inr (.inl e)))
        have hvf : r.val = .agg #[.slice (r.g.map fun b => ⟨b, 0, none⟩) r.c.1.length r.cap, .int .i64 (r.c.2 : Int)] := rfl
        have hof : ((.cells #[r.sl, .int .i64 (r.c.2 : Int)] 94) : Obj) = .cells #[.slice (r.g.map fun b => ⟨b, 0, none⟩) r.c.1.length r.cap, .int .i64 (r.c.2 : Int)] 94 := rfl
        rw [hof] at HC e0 e1 e2
        rw [hvf]
        clear hvf hof hat0 hat har hrc hrow hp2 hB4 bf b0 b1 b2 hp4 hr4 hfd hp hlv hfs
        go_wp2_with fail
        refine (right_any tm htm _).mono ?_
        rintro e w2 ⟨rfl, rfl⟩
        rw [hrt]
        go_wp2_with fail
        refine HC.out.mono ?_
        rintro e w' ⟨rfl, hT⟩
        go_wp2_with fail
        go_ret
        exact ⟨rfl, hT⟩


set_option maxRecDepth 100000 in
set_option maxHeartbeats 1000000 in
theorem cut_any {w : World} {F : Nat → Prop} {a : Nat} {s : St} (h : Dk w F a s) (nm : ByteArray) (hnm : nm.size ≤ maxLen) (n : Int) (hn0 : -9223372036854775808 ≤ n) (hn1 : n ≤ 9223372036854775807) :
    Calls Try.prog 12 #[.pointer (some ⟨a, 0, none⟩), .string nm, .int .i64 n] w fun e w' =>
      e = .returned (.int .i64 ((s.cut nm.data.toList n).2 : Int)) ∧ Turned w F a w' (s.cut nm.data.toList n).1 := by
  have hwf := h.1
  obtain ⟨_, hFl, mb, ms, lv, hp, hlv, hfs, hfoot⟩ := h
  have hB2 := (((Below.refl w.heap.size w).alloc (Nat.le_refl _) (.cells #[.pointer (some ⟨a, 0, none⟩)] 22)).alloc (by simp <;> omega) (.cells #[.string nm] 9)).alloc (by simp <;> omega) (.cells #[.int .i64 n] 3)
  have hsz2 : (((w.alloc (.cells #[.pointer (some ⟨a, 0, none⟩)] 22)).alloc (.cells #[.string nm] 9)).alloc (.cells #[.int .i64 n] 3)).heap.size = w.heap.size + 3 := by simp
  have hp2 := hp.away (Away.of_below hB2) (by have := hp.lt; omega) fun b hb => by have := hp.files.lt hb; omega
  have hal := hp.lt
  have hx0 : (((w.alloc (.cells #[.pointer (some ⟨a, 0, none⟩)] 22)).alloc (.cells #[.string nm] 9)).alloc (.cells #[.int .i64 n] 3)).heap[w.heap.size]? = some (.cells #[.pointer (some ⟨a, 0, none⟩)] 22) := by
    have h0 : (w.alloc (.cells #[.pointer (some ⟨a, 0, none⟩)] 22)).heap[w.heap.size]? = some (.cells #[.pointer (some ⟨a, 0, none⟩)] 22) := heap_alloc_new w (.cells #[.pointer (some ⟨a, 0, none⟩)] 22)
    have h1 : w.heap.size = w.heap.size := by simp
    rw [h1] at h0
    have h0 := (heap_alloc_old (w.alloc (.cells #[.pointer (some ⟨a, 0, none⟩)] 22)) (.cells #[.string nm] 9) (by simp <;> omega)).trans h0
    have h0 := (heap_alloc_old ((w.alloc (.cells #[.pointer (some ⟨a, 0, none⟩)] 22)).alloc (.cells #[.string nm] 9)) (.cells #[.int .i64 n] 3) (by simp <;> omega)).trans h0
    exact h0
  have hx1 : (((w.alloc (.cells #[.pointer (some ⟨a, 0, none⟩)] 22)).alloc (.cells #[.string nm] 9)).alloc (.cells #[.int .i64 n] 3)).heap[w.heap.size + 1]? = some (.cells #[.string nm] 9) := by
    have h0 : ((w.alloc (.cells #[.pointer (some ⟨a, 0, none⟩)] 22)).alloc (.cells #[.string nm] 9)).heap[(w.alloc (.cells #[.pointer (some ⟨a, 0, none⟩)] 22)).heap.size]? = some (.cells #[.string nm] 9) := heap_alloc_new (w.alloc (.cells #[.pointer (some ⟨a, 0, none⟩)] 22)) (.cells #[.string nm] 9)
    have h1 : (w.alloc (.cells #[.pointer (some ⟨a, 0, none⟩)] 22)).heap.size = w.heap.size + 1 := by simp
    rw [h1] at h0
    have h0 := (heap_alloc_old ((w.alloc (.cells #[.pointer (some ⟨a, 0, none⟩)] 22)).alloc (.cells #[.string nm] 9)) (.cells #[.int .i64 n] 3) (by simp <;> omega)).trans h0
    exact h0
  have hx2 : (((w.alloc (.cells #[.pointer (some ⟨a, 0, none⟩)] 22)).alloc (.cells #[.string nm] 9)).alloc (.cells #[.int .i64 n] 3)).heap[w.heap.size + 2]? = some (.cells #[.int .i64 n] 3) := by
    have h0 : (((w.alloc (.cells #[.pointer (some ⟨a, 0, none⟩)] 22)).alloc (.cells #[.string nm] 9)).alloc (.cells #[.int .i64 n] 3)).heap[((w.alloc (.cells #[.pointer (some ⟨a, 0, none⟩)] 22)).alloc (.cells #[.string nm] 9)).heap.size]? = some (.cells #[.int .i64 n] 3) := heap_alloc_new ((w.alloc (.cells #[.pointer (some ⟨a, 0, none⟩)] 22)).alloc (.cells #[.string nm] 9)) (.cells #[.int .i64 n] 3)
    have h1 : ((w.alloc (.cells #[.pointer (some ⟨a, 0, none⟩)] 22)).alloc (.cells #[.string nm] 9)).heap.size = w.heap.size + 2 := by simp
    rw [h1] at h0
    exact h0
  have hmf : ∀ (fn : Fn) (first cap : Array Value) (w : World), (Instr.makeFunc fn first cap).run Try.prog w = .ok (.func fn first cap) w := fun _ _ _ _ => rfl
  have HS : Hid (∀ w', Below w.heap.size w w' → Turned w F a w' s) := fun w' hb => same_turned ⟨hwf, hFl, mb, ms, lv, hp, hlv, hfs, hfoot⟩ hb
  have HX0 := Lib.hid hx0
  have HX1 := Lib.hid hx1
  have HX2 := Lib.hid hx2
  have HSZ := Lib.hid hsz2
  have hus := used_of hfs
  clear hx0 hx1 hx2 hsz2
  by_cases hd : s.down = true
  · have HR : Hid (s.cut nm.data.toList n = (s, 15)) := by show _ = _; unfold St.cut; rw [if_pos hd]
    rw [HR.out]
    rw [hd] at hp2
    clear hlv hfs hp hwf hus
    go_enter Try.func12, Try.ntmps12
    go_wp2_with fail
    refine (find_down hp2 nm).mono ?_
    rintro e w1 ⟨rfl, hb1⟩
    unfold Raw.zero Raw.val Raw.sl
    go_wp2_with fail
    go_ret
    exact ⟨rfl, HS.out _ ((bst hB2 hb1).alloc (bst hB2 hb1).size _)⟩
  · have hd : s.down = false := by simpa using hd
    cases hat : aget nm.data.toList s.fs with
    | none =>
      have HR : Hid (s.cut nm.data.toList n = (s, 13)) := by show _ = _; unfold St.cut; rw [if_neg (by rw [hd]; simp), hat]
      rw [HR.out]
      rw [hd] at hp2
      rw [hfs] at hat
      have hat := at_none hat
      have hfd := find_none hp2 nm hnm hat
      clear hlv hfs hp hwf hat hd hus
      go_enter Try.func12, Try.ntmps12
      go_wp2_with fail
      refine hfd.mono ?_
      rintro e w1 ⟨rfl, hb1⟩
      unfold Raw.zero Raw.val Raw.sl
      go_wp2_with fail
      go_ret
      exact ⟨rfl, HS.out _ ((bst hB2 hb1).alloc (bst hB2 hb1).size _)⟩
    | some c =>
      have hat0 := hat
      rw [hfs] at hat
      obtain ⟨r, har, hrc⟩ := at_some hat
      have hrow := hp2.files.rows _ (aget_mem har)
      have hmem := aget_mem har
      have hgl : ∀ b, r.g = some b → b < w.heap.size := fun b hb => (hp.files.rows _ hmem).lt hb
      have hgF : ∀ b, r.g = some b → F b := fun b hb => hfoot b (.inr (.inr ⟨_, hmem, hb⟩))
      have hum : usedR ms ≤ 16777216 := by have := hwf.room; have := hwf.most; omega
      have hml : ms.length ≤ 1000 := by have := hwf.count; rw [hfs] at this; simp [amap] at this; omega
      have hcl0 : r.c.1.length ≤ 16777216 := by have := used_ge hwf hat0; rw [hrc]; omega
      rw [hd] at hp2
      have hfd := find_some hp2 nm hnm har
      rw [← hd] at hp2
      have hap : ∀ p ∈ ms, p.1 ≠ nm.data.toList → ∀ b, r.g = some b → p.2.g ≠ some b := fun p hp' hn b hb => hp.files.two hmem hp' (fun e => hn e.symm) hb
      by_cases hbad : n < 0 ∨ (c.1.length : Int) < n
      · have HR : Hid (s.cut nm.data.toList n = (s, 2)) := by show _ = _; unfold St.cut; rw [if_neg (by rw [hd]; simp), hat0]; simp only []; rw [if_pos hbad]
        rw [HR.out]
        rw [← hrc] at hbad
        rcases hbad with hbad | hbad
        · go_enter Try.func12, Try.ntmps12
          go_wp2_with fail
          refine hfd.mono ?_
          rintro e w1 ⟨rfl, hb1⟩
          have hB3 := bst hB2 hb1
          have hl1 : w.heap.size + 3 ≤ w1.heap.size := by rw [← HSZ.out]; exact hb1.size
          have hB4 := hB3.alloc hB3.size (.cells #[r.sl, .int .i64 (r.c.2 : Int)] 94)
          have b0 := heap_alloc_old w1 (.cells #[r.sl, .int .i64 (r.c.2 : Int)] 94) (show w.heap.size < w1.heap.size by omega) |>.trans ((hb1.block _ (by rw [HSZ.out]; omega)).trans HX0.out)
          have b1 := heap_alloc_old w1 (.cells #[r.sl, .int .i64 (r.c.2 : Int)] 94) (show w.heap.size + 1 < w1.heap.size by omega) |>.trans ((hb1.block _ (by rw [HSZ.out]; omega)).trans HX1.out)
          have b2 := heap_alloc_old w1 (.cells #[r.sl, .int .i64 (r.c.2 : Int)] 94) (show w.heap.size + 2 < w1.heap.size by omega) |>.trans ((hb1.block _ (by rw [HSZ.out]; omega)).trans HX2.out)
          have e0 : (w1.alloc (.cells #[r.sl, .int .i64 (r.c.2 : Int)] 94)).cell? ⟨w.heap.size, 0, none⟩ = some (.pointer (some ⟨a, 0, none⟩)) := cell_of_row _ _ 0 _ _ _ b0
          have e1 : (w1.alloc (.cells #[r.sl, .int .i64 (r.c.2 : Int)] 94)).cell? ⟨w.heap.size + 1, 0, none⟩ = some (.string nm) := cell_of_row _ _ 0 _ _ _ b1
          have e2 : (w1.alloc (.cells #[r.sl, .int .i64 (r.c.2 : Int)] 94)).cell? ⟨w.heap.size + 2, 0, none⟩ = some (.int .i64 n) := cell_of_row _ _ 0 _ _ _ b2
          have hvf : r.val = .agg #[.slice (r.g.map fun b => ⟨b, 0, none⟩) r.c.1.length r.cap, .int .i64 (r.c.2 : Int)] := rfl
          have hof : ((.cells #[r.sl, .int .i64 (r.c.2 : Int)] 94) : Obj) = .cells #[.slice (r.g.map fun b => ⟨b, 0, none⟩) r.c.1.length r.cap, .int .i64 (r.c.2 : Int)] 94 := rfl
          rw [hof] at hB4 e0 e1 e2
          rw [hvf]
          clear hvf hof hat0 hat har hrc hrow hp2 b0 b1 b2 hfd hp hlv hfs
          go_wp2_with fail
          go_ret
          exact ⟨rfl, HS.out _ hB4⟩
        · have hnn : 0 ≤ n := by omega
          go_enter Try.func12, Try.ntmps12
          go_wp2_with fail
          refine hfd.mono ?_
          rintro e w1 ⟨rfl, hb1⟩
          have hB3 := bst hB2 hb1
          have hl1 : w.heap.size + 3 ≤ w1.heap.size := by rw [← HSZ.out]; exact hb1.size
          have hB4 := hB3.alloc hB3.size (.cells #[r.sl, .int .i64 (r.c.2 : Int)] 94)
          have b0 := heap_alloc_old w1 (.cells #[r.sl, .int .i64 (r.c.2 : Int)] 94) (show w.heap.size < w1.heap.size by omega) |>.trans ((hb1.block _ (by rw [HSZ.out]; omega)).trans HX0.out)
          have b1 := heap_alloc_old w1 (.cells #[r.sl, .int .i64 (r.c.2 : Int)] 94) (show w.heap.size + 1 < w1.heap.size by omega) |>.trans ((hb1.block _ (by rw [HSZ.out]; omega)).trans HX1.out)
          have b2 := heap_alloc_old w1 (.cells #[r.sl, .int .i64 (r.c.2 : Int)] 94) (show w.heap.size + 2 < w1.heap.size by omega) |>.trans ((hb1.block _ (by rw [HSZ.out]; omega)).trans HX2.out)
          have e0 : (w1.alloc (.cells #[r.sl, .int .i64 (r.c.2 : Int)] 94)).cell? ⟨w.heap.size, 0, none⟩ = some (.pointer (some ⟨a, 0, none⟩)) := cell_of_row _ _ 0 _ _ _ b0
          have e1 : (w1.alloc (.cells #[r.sl, .int .i64 (r.c.2 : Int)] 94)).cell? ⟨w.heap.size + 1, 0, none⟩ = some (.string nm) := cell_of_row _ _ 0 _ _ _ b1
          have e2 : (w1.alloc (.cells #[r.sl, .int .i64 (r.c.2 : Int)] 94)).cell? ⟨w.heap.size + 2, 0, none⟩ = some (.int .i64 n) := cell_of_row _ _ 0 _ _ _ b2
          have hvf : r.val = .agg #[.slice (r.g.map fun b => ⟨b, 0, none⟩) r.c.1.length r.cap, .int .i64 (r.c.2 : Int)] := rfl
          have hof : ((.cells #[r.sl, .int .i64 (r.c.2 : Int)] 94) : Obj) = .cells #[.slice (r.g.map fun b => ⟨b, 0, none⟩) r.c.1.length r.cap, .int .i64 (r.c.2 : Int)] 94 := rfl
          rw [hof] at hB4 e0 e1 e2
          rw [hvf]
          clear hvf hof hat0 hat har hrc hrow hp2 b0 b1 b2 hfd hp hlv hfs
          go_wp2_with fail
          go_ret
          exact ⟨rfl, HS.out _ hB4⟩
      · obtain ⟨q, rfl⟩ := Int.eq_ofNat_of_zero_le (show 0 ≤ n by omega)
        have hql : q ≤ c.1.length := by omega
        have hkl : q ≤ r.c.1.length := by rw [hrc]; exact hql
        clear hbad
        have hwf2 : ({ s with fs := (fun fs => aput nm.data.toList (c.1.take q, q) fs) s.fs } : St).wf := St.put_wf hwf (hwf.names _ (aget_mem hat0)) (by simp; omega) (by have := hwf.room; rw [hat0]; simp; omega) (fun e => by rw [hat0] at e; cases e)
        have HR : Hid (s.cut nm.data.toList (q : Int) = s.op fun fs => aput nm.data.toList (c.1.take q, q) fs) := by show _ = _; unfold St.cut; rw [if_neg (by rw [hd]; simp), hat0]; simp only []; rw [if_neg (by omega)]; rfl
        rw [HR.out]
        go_enter Try.func12, Try.ntmps12
        go_wp2_with fail
        refine hfd.mono ?_
        rintro e w1 ⟨rfl, hb1⟩
        have hB3 := bst hB2 hb1
        have hl1 : w.heap.size + 3 ≤ w1.heap.size := by rw [← HSZ.out]; exact hb1.size
        have hB4 := hB3.alloc hB3.size (.cells #[r.sl, .int .i64 (r.c.2 : Int)] 94)
        have bf : (w1.alloc (.cells #[r.sl, .int .i64 (r.c.2 : Int)] 94)).heap[w1.heap.size]? = some (.cells #[r.sl, .int .i64 (r.c.2 : Int)] 94) := heap_alloc_new w1 (.cells #[r.sl, .int .i64 (r.c.2 : Int)] 94)
        have b0 := heap_alloc_old w1 (.cells #[r.sl, .int .i64 (r.c.2 : Int)] 94) (show w.heap.size < w1.heap.size by omega) |>.trans ((hb1.block _ (by rw [HSZ.out]; omega)).trans HX0.out)
        have b1 := heap_alloc_old w1 (.cells #[r.sl, .int .i64 (r.c.2 : Int)] 94) (show w.heap.size + 1 < w1.heap.size by omega) |>.trans ((hb1.block _ (by rw [HSZ.out]; omega)).trans HX1.out)
        have b2 := heap_alloc_old w1 (.cells #[r.sl, .int .i64 (r.c.2 : Int)] 94) (show w.heap.size + 2 < w1.heap.size by omega) |>.trans ((hb1.block _ (by rw [HSZ.out]; omega)).trans HX2.out)
        have e0 : (w1.alloc (.cells #[r.sl, .int .i64 (r.c.2 : Int)] 94)).cell? ⟨w.heap.size, 0, none⟩ = some (.pointer (some ⟨a, 0, none⟩)) := cell_of_row _ _ 0 _ _ _ b0
        have e1 : (w1.alloc (.cells #[r.sl, .int .i64 (r.c.2 : Int)] 94)).cell? ⟨w.heap.size + 1, 0, none⟩ = some (.string nm) := cell_of_row _ _ 0 _ _ _ b1
        have e2 : (w1.alloc (.cells #[r.sl, .int .i64 (r.c.2 : Int)] 94)).cell? ⟨w.heap.size + 2, 0, none⟩ = some (.int .i64 (q : Int)) := cell_of_row _ _ 0 _ _ _ b2
        have hp4 := hp.away (Away.of_below hB4) (by omega) fun b hb => by have := hp.files.lt hb; omega
        have hr4 := (hp.files.rows _ hmem).away (Away.of_below hB4) fun b hb => by have := hgl b hb; omega
        have HC : Hid (Calls Try.prog 63 #[.pointer (some ⟨a, 0, none⟩), .func (.func 67) #[] #[.pointer (some ⟨w.heap.size, 0, none⟩), .pointer (some ⟨w.heap.size + 1, 0, none⟩), .pointer (some ⟨w1.heap.size, 0, none⟩), .pointer (some ⟨w.heap.size + 2, 0, none⟩)]] (w1.alloc (.cells #[r.sl, .int .i64 (r.c.2 : Int)] 94)) fun e W' =>
            e = .returned (.int .i64 ((s.op fun fs => aput nm.data.toList (c.1.take q, q) fs).2 : Int)) ∧ Turned w F a W' (s.op fun fs => aput nm.data.toList (c.1.take q, q) fs).1) := by
          refine op_Cut hwf hd hp4 hlv hfs (Away.of_new hB4 F) hfoot _ hwf2 ⟨w.heap.size, 0, none⟩ ⟨w.heap.size + 1, 0, none⟩ ⟨w1.heap.size, 0, none⟩ ⟨w.heap.size + 2, 0, none⟩ fun W1 armed lv1 hP1 hA1 => ?_
          have k := fun (x : Nat) (o : Obj) (hx : (w1.alloc (.cells #[r.sl, .int .i64 (r.c.2 : Int)] 94)).heap[x]? = some o) (hn : w.heap.size ≤ x) => box_keep hx hA1 (by omega)
          have hr5 := hr4.away hA1 fun b hb => (hp4.ne_row hr4 hb).1
          refine (cl_cut hP1 hnm (k _ _ bf (by omega)) (k _ _ b0 (by omega)) (k _ _ b1 (by omega)) (k _ _ b2 (by omega)) hr5 hkl hum hml hcl0).mono ?_
          rintro e W' ⟨rfl, r', hc', hn', hP', hA'⟩
          refine ⟨rfl, _, ?_, hP', hA'.mono fun b _ e => ?_, foot_put (fun b hb => .inl (hfoot b hb)) fun b hb => .inr ?_⟩
          · rw [amap_aput, hfs, hc', hrc]
          · rcases e with e | e
            · exact .inl (hfoot b (.inl e))
            · exact .inl (hfoot b (.inr (.inl e)))
          · have h1 := hn' b hb
            have h2 := hA1.size
            simp at h2
            omega
        have hvf : r.val = .agg #[.slice (r.g.map fun b => ⟨b, 0, none⟩) r.c.1.length r.cap, .int .i64 (r.c.2 : Int)] := rfl
        have hof : ((.cells #[r.sl, .int .i64 (r.c.2 : Int)] 94) : Obj) = .cells #[.slice (r.g.map fun b => ⟨b, 0, none⟩) r.c.1.length r.cap, .int .i64 (r.c.2 : Int)] 94 := rfl
        rw [hof] at HC e0 e1 e2
        rw [hvf]
        clear hvf hof hat0 hat har hrc hrow hp2 hB4 bf b0 b1 b2 hp4 hr4 hfd hp hlv hfs
        go_wp2_with fail
        refine HC.out.mono ?_
        rintro e w' ⟨rfl, hT⟩
        go_wp2_with fail
        go_ret
        exact ⟨rfl, hT⟩

end Go.Proofs.Ytebpdlggkncliaa
