/- slot: maps of words to values: stores, deletes, ranges, copies. -/
import Derived.Test.YtcplhalgjjhmdaaSta
namespace Go.Proofs.Ytcplhalgjjhmdaa
open Go.RowKit Go.Shelf Go.ChangeMaps Go.MapKept

theorem chg_setBlock {X : World} {b : Nat} {o : Obj} (hb : X.heap[b]? = some o) (o' : Obj) : Chg (fun k => k = b) X (setBlock X b o') :=
  ⟨rfl, rfl, rfl, by simp [setBlock], fun i _ hi => (MapKept.heap_set hb).2 i hi⟩
theorem EsOk.push {m : Nat → Option (Nat × Nat)} {es : Array MapEntry} {clock : Nat} (h : EsOk m es clock) {n : Nat} (hn : n < MM) {v : Nat × Nat} (hv : okP v) (hno : ∀ e ∈ es.toList, e.key ≠ W n) : EsOk (upd m n (some v)) (es.push ⟨W n, vP v, clock⟩) (clock + 1) := by
  refine ⟨stamped_push h.1 hno, fun x hx => ?_, fun k u hk => ?_⟩
  · simp only [Array.toList_push, List.mem_append, List.mem_singleton] at hx
    rcases hx with hx | rfl
    · obtain ⟨k, u, hk, hu, e1, e2, e3⟩ := h.2.1 x hx
      refine ⟨k, u, hk, hu, e1, e2, ?_⟩
      rw [upd_other _ _ (fun e => hno x hx (by rw [e1, e]))]; exact e3
    · exact ⟨n, v, hn, hv, rfl, rfl, upd_same _ _ _⟩
  · by_cases e : k = n
    · subst e
      exact ⟨hn, ⟨W k, vP v, clock⟩, by simp, rfl⟩
    · rw [upd_other _ _ e] at hk
      obtain ⟨h1, x, hx, h2⟩ := h.2.2 k u hk
      exact ⟨h1, x, by simp only [Array.toList_push, List.mem_append]; exact Or.inl hx, h2⟩
theorem EsOk.modify {m : Nat → Option (Nat × Nat)} {es : Array MapEntry} {clock : Nat} (h : EsOk m es clock) {n : Nat} (hn : n < MM) {v : Nat × Nat} (hv : okP v) {j : Nat} {e0 : MapEntry} (h2 : es.toList[j]? = some e0) (h3 : e0.key = W n) :
    EsOk (upd m n (some v)) (es.modify j (fun e' => { e' with key := W n, val := vP v })) clock := by
  have hj : es[j]? = some e0 := by simpa using h2
  have hp := ((stamped_iff es clock).1 h.1).2.2
  have hlist : (es.modify j (fun e' => { e' with key := W n, val := vP v })).toList = es.toList.set j { e0 with key := W n, val := vP v } := by rw [Array.toList_modify, modify_eq_set _ _ _ _ h2]
  have hjl : j < es.toList.length := (List.getElem?_eq_some_iff.1 h2).1
  refine ⟨stamped_modify h.1 _ _ (fun _ _ => rfl) (fun e' _ he' => by rw [hj] at he'; cases he'; exact h3.symm), fun x hx => ?_, fun k u hk => ?_⟩
  · rw [hlist] at hx
    obtain ⟨i, hi, ex⟩ := List.getElem_of_mem hx
    rw [List.getElem_set] at ex
    split at ex
    · subst ex; exact ⟨n, v, hn, hv, rfl, rfl, upd_same _ _ _⟩
    · rename_i hne
      have hi' : i < es.toList.length := by simpa using hi
      have hm : x ∈ es.toList := ex ▸ List.getElem_mem hi'
      obtain ⟨k, u, hk, hu, e1, e2, e3⟩ := h.2.1 x hm
      refine ⟨k, u, hk, hu, e1, e2, ?_⟩
      rw [upd_other _ _ (fun e => hne ?_)]; exact e3
      subst e
      have : x = e0 := entry_eq_of_key hp hm (List.mem_of_getElem? h2) (e1.trans h3.symm)
      have hb := ((stamped_iff es clock).1 h.1).2.1
      refine (List.getElem?_inj (l := es.toList.map (·.born)) (by simpa using hjl) hb).1 ?_
      rw [List.getElem?_map, List.getElem?_map, h2, List.getElem?_eq_getElem hi', ex, this]
  · by_cases e : k = n
    · subst e
      exact ⟨hn, { e0 with key := W k, val := vP v }, by rw [hlist]; exact List.mem_iff_getElem.2 ⟨j, by simpa using hjl, by simp⟩, rfl⟩
    · rw [upd_other _ _ e] at hk
      obtain ⟨h1, x, hx, h4⟩ := h.2.2 k u hk
      refine ⟨h1, x, ?_, h4⟩
      rw [hlist]
      obtain ⟨i, hi, ex⟩ := List.getElem_of_mem hx
      refine List.mem_iff_getElem.2 ⟨i, by simpa using hi, ?_⟩
      rw [List.getElem_set, if_neg, ex]
      rintro rfl
      rw [List.getElem?_eq_getElem hi] at h2
      cases h2
      rw [ex, h4] at h3
      exact e (W_inj h1 hn h3)
theorem EsOk.erase {m : Nat → Option (Nat × Nat)} {es : Array MapEntry} {clock : Nat} (h : EsOk m es clock) {n : Nat} (hn : n < MM) {j : Nat} {e0 : MapEntry} (h2 : es.toList[j]? = some e0) (h3 : e0.key = W n) :
    EsOk (upd m n none) (es.eraseIdxIfInBounds j) clock := by
  have hp := ((stamped_iff es clock).1 h.1).2.2
  have hjl : j < es.toList.length := (List.getElem?_eq_some_iff.1 h2).1
  have hsub : (es.eraseIdxIfInBounds j).toList = es.toList.eraseIdx j := by
    unfold Array.eraseIdxIfInBounds
    rw [dif_pos (by simpa using hjl)]
    simp
  refine ⟨stamped_erase h.1 j, fun x hx => ?_, fun k u hk => ?_⟩
  · rw [hsub, List.mem_eraseIdx_iff_getElem?] at hx
    obtain ⟨i, hne, hi⟩ := hx
    obtain ⟨k, u, hk, hu, e1, e2, e3⟩ := h.2.1 x (List.mem_of_getElem? hi)
    refine ⟨k, u, hk, hu, e1, e2, ?_⟩
    rw [upd_other _ _ (fun e => hne ?_)]; exact e3
    subst e
    have hxe : x = e0 := entry_eq_of_key hp (List.mem_of_getElem? hi) (List.mem_of_getElem? h2) (e1.trans h3.symm)
    subst hxe
    have hb : (es.toList.map (·.born)).Nodup := ((stamped_iff es clock).1 h.1).2.1
    have hil : i < es.toList.length := (List.getElem?_eq_some_iff.1 hi).1
    refine (List.getElem?_inj (l := es.toList.map (·.born)) (by simpa using hil) hb).1 ?_
    rw [List.getElem?_map, List.getElem?_map, h2, hi]
  · by_cases e : k = n
    · subst e; rw [upd_same] at hk; cases hk
    · rw [upd_other _ _ e] at hk
      obtain ⟨h1, x, hx, h4⟩ := h.2.2 k u hk
      refine ⟨h1, x, ?_, h4⟩
      rw [hsub, List.mem_eraseIdx_iff_getElem?]
      obtain ⟨i, hi⟩ := List.getElem?_of_mem hx
      refine ⟨i, ?_, hi⟩
      rintro rfl
      rw [h2] at hi; cases hi
      rw [h4] at h3
      exact e (W_inj h1 hn h3)
theorem Mp.store {X : World} {b : Nat} {m : Nat → Option (Nat × Nat)} (h : Mp X b m) {t : TypeId} (ht : Try.prog.underlying t = some (.map 33 36)) (n : Nat) (hn : n < MM) (v : Nat × Nat) (hv : okP v) :
    ∃ Y, (Instr.mapUpdate t (.map (some b)) (W n) (vP v)).run Try.prog X = .ok () Y ∧ Mp Y b (upd m n (some v)) ∧ Chg (fun k => k = b) X Y ∧ Y.heap.size = X.heap.size := by
  obtain ⟨es, clock, hb, E⟩ := h
  obtain ⟨l, hl⟩ := keyW n
  rcases E.find n hn X with ⟨h1, _, h2⟩ | ⟨j, e, u, h1, h2, h3, _⟩
  · refine ⟨setBlock X b (.map (es.push ⟨W n, vP v, clock⟩) (clock + 1)), ?_, ⟨_, _, heap_setBlock_same hb _, E.push hn hv h2⟩, chg_setBlock hb _, by simp [setBlock]⟩
    simp [Instr.mapUpdate, run_underlying ht, MapKept.run_getObj_map hb, keyedW.check X false hl, h1, MapKept.run_setObj_map _ hb, Result.andThen, setBlock]
  · have hj : es[j]? = some e := by simpa using h2
    refine ⟨setBlock X b (.map (es.modify j (fun e' => { e' with key := W n, val := vP v })) clock), ?_, ⟨_, _, heap_setBlock_same hb _, E.modify hn hv h2 h3⟩, chg_setBlock hb _, by simp [setBlock]⟩
    simp [Instr.mapUpdate, run_underlying ht, MapKept.run_getObj_map hb, keyedW.check X false hl, h1, hj, h3, keyedW.stays X hl, MapKept.run_setObj_map _ hb, Result.andThen, setBlock]
theorem Mp.del {X : World} {b : Nat} {m : Nat → Option (Nat × Nat)} (h : Mp X b m) {t : TypeId} (ht : Try.prog.underlying t = some (.map 33 36)) (n : Nat) (hn : n < MM) :
    ∃ Y, (∀ ty, (Builtin.delete_ #[t, 33] ty #[.map (some b), W n]).run Try.prog X = .ok (.tuple #[]) Y) ∧ Mp Y b (upd m n none) ∧ Chg (fun k => k = b) X Y ∧ Y.heap.size = X.heap.size := by
  obtain ⟨es, clock, hb, E⟩ := h
  obtain ⟨l, hl⟩ := keyW n
  rcases E.find n hn X with ⟨h1, h0, h2⟩ | ⟨j, e, u, h1, h2, h3, _⟩
  · have hm : upd m n none = m := by
      funext k
      by_cases e : k = n
      · subst e; rw [upd_same, h0]
      · exact upd_other _ _ e
    refine ⟨setBlock X b (.map es clock), ?_, ⟨_, _, heap_setBlock_same hb _, by rw [hm]; exact E⟩, chg_setBlock hb _, by simp [setBlock]⟩
    intro ty; simp [Builtin.delete_, run_underlying ht, MapKept.run_getObj_map hb, keyedW.check X _ hl, h1, MapKept.run_setObj_map _ hb, Result.andThen, setBlock]
  · refine ⟨setBlock X b (.map (es.eraseIdxIfInBounds j) clock), ?_, ⟨_, _, heap_setBlock_same hb _, E.erase hn h2 h3⟩, chg_setBlock hb _, by simp [setBlock]⟩
    intro ty; simp [Builtin.delete_, run_underlying ht, MapKept.run_getObj_map hb, keyedW.check X _ hl, h1, MapKept.run_setObj_map _ hb, Result.andThen, setBlock]
/-- A range over the map in block b under way, its iterator in block r: `left` says which keys are still to come. -/
def Rg (X : World) (b r : Nat) (m : Nat → Option (Nat × Nat)) (left : Nat → Bool) (cnt : Nat) : Prop :=
  ∃ es clock since seen c0, X.heap[b]? = some (.map es clock) ∧ EsOk m es clock ∧ X.heap[r]? = some (.mapIter (some b) since seen c0) ∧ (∀ x ∈ es.toList, x.born < since) ∧ since ≤ c0 ∧ since ≤ clock ∧ (leftOf es seen).size = cnt ∧
    ∀ x ∈ es.toList, ∀ n, n < MM → x.key = W n → left n = !seen.contains x.born
theorem Rg.map {X : World} {b r : Nat} {m : Nat → Option (Nat × Nat)} {left : Nat → Bool} {cnt : Nat} (h : Rg X b r m left cnt) : Mp X b m := by
  obtain ⟨es, clock, since, seen, c0, hb, E, _⟩ := h
  exact ⟨es, clock, hb, E⟩
theorem Rg.lt {X : World} {b r : Nat} {m : Nat → Option (Nat × Nat)} {left : Nat → Bool} {cnt : Nat} (h : Rg X b r m left cnt) : r < X.heap.size := by
  obtain ⟨es, clock, since, seen, c0, _, _, hr, _⟩ := h
  exact (Array.getElem?_eq_some_iff.1 hr).1
theorem Rg.of_blocks {X Y : World} {b r : Nat} {m : Nat → Option (Nat × Nat)} {left : Nat → Bool} {cnt : Nat} (h : Rg X b r m left cnt) (hb : Y.heap[b]? = X.heap[b]?) (hr : Y.heap[r]? = X.heap[r]?) : Rg Y b r m left cnt := by
  obtain ⟨es, clock, since, seen, c0, h1, h2, h3, h4⟩ := h
  exact ⟨es, clock, since, seen, c0, hb.trans h1, h2, hr.trans h3, h4⟩
theorem Rg.chg {M : Nat → Prop} {X Y : World} {b r : Nat} {m : Nat → Option (Nat × Nat)} {left : Nat → Bool} {cnt : Nat} (h : Rg X b r m left cnt) (k : Chg M X Y) (hb : ¬ M b) (hr : ¬ M r) : Rg Y b r m left cnt := h.of_blocks (k.block b h.map.lt hb) (k.block r h.lt hr)
theorem Rg.keep {X Y : World} {b r : Nat} {m : Nat → Option (Nat × Nat)} {left : Nat → Bool} {cnt : Nat} (h : Rg X b r m left cnt) (k : Below X.heap.size X Y) : Rg Y b r m left cnt := h.of_blocks (k.block b h.map.lt) (k.block r h.lt)
theorem Rg.left_eq {X : World} {b r : Nat} {m : Nat → Option (Nat × Nat)} {left : Nat → Bool} {cnt : Nat} (h : Rg X b r m left cnt) : X.rangeLeft b r = cnt := by
  obtain ⟨es, clock, since, seen, c0, h1, _, h3, _, _, _, h5, _⟩ := h
  simp only [World.rangeLeft, h1, h3]; exact h5
theorem Rg.ne {X : World} {b r : Nat} {m : Nat → Option (Nat × Nat)} {left : Nat → Bool} {cnt : Nat} (h : Rg X b r m left cnt) : r ≠ b := by
  obtain ⟨es, clock, since, seen, c0, h1, _, h3, _⟩ := h
  rintro rfl
  rw [h1] at h3; cases h3
theorem Mp.range {X : World} {b : Nat} {m : Nat → Option (Nat × Nat)} (h : Mp X b m) {t : TypeId} (ht : Try.prog.underlying t = some (.map 33 36)) :
    ∃ Y cnt, (Instr.range t (.map (some b))).run Try.prog X = .ok (.pointer (some ⟨X.heap.size, 0, none⟩)) Y ∧ Rg Y b X.heap.size m (fun n => (m n).isSome) cnt ∧ Below X.heap.size X Y ∧ Y.heap.size = X.heap.size + 1 := by
  have hlt := h.lt
  obtain ⟨es, clock, hb, E⟩ := h
  refine ⟨_, _, run_range_map X t _ _ b es clock ht hb, ⟨es, clock, clock, #[], clock, ((MapKept.heap_alloc X _).2 b hlt).trans hb, E, (MapKept.heap_alloc X _).1, E.1.1, Nat.le_refl _, Nat.le_refl _, rfl, fun x hx n hn hk => ?_⟩, balloc (Below.refl _ _) _, by simp⟩
  obtain ⟨v, _, _, hm⟩ := E.at hx hn hk
  show (m n).isSome = _
  rw [hm]; simp
theorem Rg.next {X : World} {b r : Nat} {m : Nat → Option (Nat × Nat)} {left : Nat → Bool} {cnt : Nat} (h : Rg X b r m left cnt) :
    (cnt = 0 ∧ (∀ n v, m n = some v → left n = false) ∧ (∀ ty, (Instr.next (.pointer (some ⟨r, 0, none⟩)) false ty).run Try.prog X = .ok (.tuple #[.bool false]) X)) ∨
    ∃ n v Y cnt', n < MM ∧ okP v ∧ m n = some v ∧ left n = true ∧ (∀ ty, (Instr.next (.pointer (some ⟨r, 0, none⟩)) false ty).run Try.prog X = .ok (.tuple #[.bool true, W n, vP v]) Y) ∧
      Rg Y b r m (fun k => left k && decide (k ≠ n)) cnt' ∧ cnt' < cnt ∧ Chg (fun k => k = r) X Y ∧ Y.heap.size = X.heap.size ∧ (Instr.entry (.pointer (some ⟨r, 0, none⟩))).run Try.prog Y = .ok (.tuple #[W n, vP v]) Y := by
  have hne := h.ne
  obtain ⟨es, clock, since, seen, c0, hb, E, hr, hold, hsc, hsk, rfl, hl⟩ := h
  have hst := (stamped_iff es clock).1 E.1
  rcases run_next_at (P := Try.prog) X 0 r b since c0 seen es clock hr hb hold hsc with ⟨h0, hrun⟩ | ⟨e, he, w1, hal, hrun⟩
  · refine Or.inl ⟨h0, fun n v hm => ?_, fun _ => hrun⟩
    obtain ⟨hn, x, hx, hk⟩ := E.2.2 n v hm
    rw [hl x hx n hn hk, all_seen es seen h0 x hx]; rfl
  · obtain ⟨hem, hes⟩ := mem_left he
    obtain ⟨n, v, hn, hv, hk, hval, hm⟩ := E.2.1 e hem
    have hr1 : w1.heap[r]? = some (.mapIter (some b) since seen c0) := by rcases hal with rfl | rfl <;> exact hr
    have hb1 : w1.heap[b]? = some (.map es clock) := by rcases hal with rfl | rfl <;> exact hb
    have hset := heap_set (o' := .mapIter (some b) since (seen.push e.born) clock) hr1
    have hb' : (setBlock w1 r (.mapIter (some b) since (seen.push e.born) clock)).heap[b]? = some (.map es clock) := (hset.2 b (fun e1 => hne e1.symm)).trans hb1
    refine Or.inr ⟨n, v, setBlock w1 r (.mapIter (some b) since (seen.push e.born) clock), _, hn, hv, hm, by rw [hl e hem n hn hk, hes]; rfl, by rw [hk, hval] at hrun; exact fun _ => hrun, ⟨es, clock, since, seen.push e.born, clock, hb', E, hset.1, hold, hsk, hsk, rfl, fun x hx k hkl hxk => ?_⟩, left_shrinks es seen e he, ?_, ?_, ?_⟩
    · show (left k && decide (k ≠ n)) = _
      rw [hl x hx k hkl hxk, contains_push]
      by_cases hkn : k = n
      · subst hkn
        have : x = e := entry_eq_of_key hst.2.2 hx hem (hxk.trans hk.symm)
        subst this
        simp
      · have : (x.born == e.born) = false := by
          rw [beq_eq_false_iff_ne]
          intro hbe
          have := born_inj hst.2.1 hx hem hbe
          subst this
          exact hkn (W_inj hkl hn (hxk.symm.trans hk))
        rw [this]; simp [hkn]
    · rcases hal with rfl | rfl
      · exact chg_setBlock hr _
      · exact ⟨rfl, rfl, rfl, by simp [setBlock], fun i _ hi => hset.2 i hi⟩
    · rcases hal with rfl | rfl <;> simp [setBlock]
    · have := run_entry_at (P := Try.prog) _ r b since seen es clock e hset.1 hb' hem hst.2.1
      rwa [hk, hval] at this
theorem Mp.clone {X : World} {b : Nat} {m : Nat → Option (Nat × Nat)} (h : Mp X b m) : ∃ es clock, X.heap[b]? = some (.map es clock) ∧ Mp (X.alloc (.map es clock)) X.heap.size m := by
  obtain ⟨es, clock, hb, E⟩ := h
  exact ⟨es, clock, hb, es, clock, (MapKept.heap_alloc X _).1, E⟩

end Go.Proofs.Ytcplhalgjjhmdaa
