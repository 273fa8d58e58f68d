/- Maps of any keys and values in memory: stores, deletes, ranges, copies. -/
import Derived.Test.YtcplhalgjjhmdaaSta
namespace Go.Proofs.Ytcplhalgjjhmdaa
open Go.RowKit Go.Shelf Go.ChangeMaps Go.MapKept

/-- How keys and values lie, and which there are. -/
structure MD (K V : Type) where
  kv : K → Value
  vv : V → Value
  okK : K → Prop
  okV : V → Prop
/-- What is asked of them. -/
structure MK (P : Program) (kt : TypeId) {K V : Type} (D : MD K V) : Prop where
  inj : ∀ {n k : K}, D.okK n → D.okK k → D.kv n = D.kv k → n = k
  key : ∀ {n : K}, D.okK n → ∃ l, keyOf P kt (D.kv n) = some l
  keyed : Maps.Keyed P kt
section
variable {P : Program} {kt vt : TypeId} {K V : Type} {D : MD K V}
/-- A function turned at one place. -/
def gupd [DecidableEq K] (m : K → Option V) (n : K) (o : Option V) : K → Option V := fun k => if k = n then o else m k
theorem gupd_same [DecidableEq K] (m : K → Option V) (n : K) (o : Option V) : gupd m n o n = o := if_pos rfl
theorem gupd_other [DecidableEq K] (m : K → Option V) {n k : K} (o : Option V) (h : k ≠ n) : gupd m n o k = m k := if_neg h
def GEn (D : MD K V) (m : K → Option V) (x : MapEntry) : Prop := ∃ n v, D.okK n ∧ D.okV v ∧ x.key = D.kv n ∧ x.val = D.vv v ∧ m n = some v
def GEs (D : MD K V) (m : K → Option V) (es : Array MapEntry) (clock : Nat) : Prop := Stamped es clock ∧ (∀ x ∈ es.toList, GEn D m x) ∧ ∀ n v, m n = some v → D.okK n ∧ ∃ x ∈ es.toList, x.key = D.kv n
/-- Block b is a map that holds m. -/
def GMp (D : MD K V) (X : World) (b : Nat) (m : K → Option V) : Prop := ∃ es clock, X.heap[b]? = some (.map es clock) ∧ GEs D m es clock
theorem GMp.lt {X : World} {b : Nat} {m : K → Option V} (h : GMp D X b m) : b < X.heap.size := by
  obtain ⟨es, clock, hb, _⟩ := h
  exact (Array.getElem?_eq_some_iff.1 hb).1
theorem GMp.of_block {X Y : World} {b : Nat} {m : K → Option V} (h : GMp D X b m) (hk : Y.heap[b]? = X.heap[b]?) : GMp D Y b m := by
  obtain ⟨es, clock, hb, r⟩ := h
  exact ⟨es, clock, hk.trans hb, r⟩
theorem GMp.chg {M : Nat → Prop} {X Y : World} {b : Nat} {m : K → Option V} (h : GMp D X b m) (k : Chg M X Y) (hb : ¬ M b) : GMp D Y b m := h.of_block (k.block b h.lt hb)
theorem GMp.keep {X Y : World} {b : Nat} {m : K → Option V} (h : GMp D X b m) (k : Below X.heap.size X Y) : GMp D Y b m := h.of_block (k.block b h.lt)
theorem GMp.drew {X : World} {b : Nat} {m : K → Option V} (h : GMp D X b m) : GMp D X.drew b m := h
theorem GMp.ok (L : MK P kt D) {X : World} {b : Nat} {m : K → Option V} (h : GMp D X b m) {n : K} {v : V} (hn : m n = some v) : D.okK n ∧ D.okV v := by
  obtain ⟨es, clock, hb, _, h1, h2⟩ := h
  obtain ⟨hl, x, hx, hk⟩ := h2 n v hn
  obtain ⟨n', v', hn', hv', hk', _, hm'⟩ := h1 x hx
  have := L.inj hn' hl (hk'.symm.trans hk)
  subst this
  rw [hn] at hm'; cases hm'
  exact ⟨hl, hv'⟩
theorem GMp.made (D : MD K V) (X : World) (c : Nat) : GMp D (X.alloc (.map #[] c)) X.heap.size (fun _ => none) :=
  ⟨#[], c, (MapKept.heap_alloc X _).1, stamped_empty c, by simp, by simp⟩
theorem GEs.keys (L : MK P kt D) {m : K → Option V} {es : Array MapEntry} {clock : Nat} (h : GEs D m es clock) : ∀ e ∈ es.toList, ∃ l, keyOf P kt e.key = some l := fun e he => by
  obtain ⟨n, v, _, _, hk, _⟩ := h.2.1 e he
  rw [hk]; exact L.key (by assumption)
theorem GEs.at (L : MK P kt D) {m : K → Option V} {es : Array MapEntry} {clock : Nat} (h : GEs D m es clock) {e : MapEntry} (he : e ∈ es.toList) {n : K} (hn : D.okK n) (hk : e.key = D.kv n) : ∃ v, D.okV v ∧ e.val = D.vv v ∧ m n = some v := by
  obtain ⟨n', v, hn', hv, hk', hval, hm⟩ := h.2.1 e he
  have := L.inj hn' hn (hk'.symm.trans hk)
  subst this
  exact ⟨v, hv, hval, hm⟩
theorem GEs.find (L : MK P kt D) {m : K → Option V} {es : Array MapEntry} {clock : Nat} (h : GEs D m es clock) (n : K) (hn : D.okK n) (w : World) :
    ((Instr.findKey kt (D.kv n) es.toList).run P w = .ok none w ∧ m n = none ∧ ∀ e ∈ es.toList, e.key ≠ D.kv n) ∨
    ∃ j e v, (Instr.findKey kt (D.kv n) es.toList).run P w = .ok (some (j, e.val)) w ∧ es.toList[j]? = some e ∧ e.key = D.kv n ∧ e.val = D.vv v ∧ m n = some v ∧ D.okV v := by
  obtain ⟨l, hl⟩ := L.key hn
  rcases L.keyed.find w hl es.toList (h.keys L) with ⟨h1, h2⟩ | ⟨j, e, h1, h2, h3⟩
  · refine Or.inl ⟨h1, ?_, h2⟩
    cases hm : m n with
    | none => rfl
    | some v =>
      obtain ⟨_, x, hx, hk⟩ := h.2.2 n v hm
      exact absurd hk (h2 x hx)
  · obtain ⟨v, hv, hval, hm⟩ := h.at L (List.mem_of_getElem? h2) hn h3
    exact Or.inr ⟨j, e, v, h1, h2, h3, hval, hm, hv⟩
/-- What a map has of a key. -/
def glk (z : V) (m : K → Option V) (n : K) : V := (m n).getD z
theorem GMp.look (L : MK P kt D) {z : V} (hz : ∀ w : World, (zeroValue vt).run P w = .ok (D.vv z) w) {X : World} {b : Nat} {m : K → Option V} (h : GMp D X b m) {t : TypeId} (ht : P.underlying t = some (.map kt vt)) (n : K) (hn : D.okK n) (c : Bool) :
    (Instr.lookup t (.map (some b)) (D.kv n) c).run P X = .ok (if c then .tuple #[D.vv (glk z m n), .bool (m n).isSome] else D.vv (glk z m n)) X := by
  obtain ⟨es, clock, hb, E⟩ := h
  obtain ⟨l, hl⟩ := L.key hn
  rcases E.find L n hn X with ⟨h1, h2, _⟩ | ⟨j, e, v, h1, _, _, h4, h5, _⟩
  · cases c <;> simp [Instr.lookup, run_underlying ht, MapKept.run_getObj_map hb, L.keyed.check X _ hl, h1, Result.andThen, glk, h2, hz]
  · cases c <;> simp [Instr.lookup, run_underlying ht, MapKept.run_getObj_map hb, L.keyed.check X _ hl, h1, Result.andThen, glk, h5, h4]
theorem GMp.len {X : World} {b : Nat} {m : K → Option V} (h : GMp D X b m) {t : TypeId} (ht : P.underlying t = some (.map kt vt)) (ty : TypeId) :
    ∃ k : Nat, (Builtin.len_ #[t] ty #[.map (some b)]).run P X = .ok (.int .i64 k) X ∧ (k = 0 ↔ ∀ n, m n = none) := by
  obtain ⟨es, clock, hb, E⟩ := h
  refine ⟨es.size, by simp [Builtin.len_, run_underlying ht, MapKept.run_getObj_map hb, goInt, Result.andThen], fun h0 n => ?_, fun h0 => ?_⟩
  · cases hm : m n with
    | none => rfl
    | some v =>
      obtain ⟨_, x, hx, _⟩ := E.2.2 n v hm
      have : es = #[] := Array.eq_empty_of_size_eq_zero h0
      subst this; simp at hx
  · rcases Nat.eq_zero_or_pos es.size with h | h
    · exact h
    · obtain ⟨n, v, _, _, _, _, hm⟩ := E.2.1 es[0] (by simp)
      rw [h0 n] at hm; cases hm

theorem gchg_setBlock {X : World} {b : Nat} {o : Obj} (hb : X.heap[b]? = some o) (o' : Obj) : Chg (fun k => k = b) X (setBlock X b o') :=
  ⟨rfl, rfl, rfl, by simp [setBlock], fun i _ hi => (MapKept.heap_set hb).2 i hi⟩
theorem GEs.push [DecidableEq K] {m : K → Option V} {es : Array MapEntry} {clock : Nat} (h : GEs D m es clock) {n : K} (hn : D.okK n) {v : V} (hv : D.okV v) (hno : ∀ e ∈ es.toList, e.key ≠ D.kv n) : GEs D (gupd m n (some v)) (es.push ⟨D.kv n, D.vv v, clock⟩) (clock + 1) := by
  refine ⟨stamped_push h.1 hno, fun x hx => ?_, fun k u hk => ?_⟩
  · simp only [Array.toList_push, List.mem_append, List.mem_singleton] at hx
    rcases hx with hx | rfl
    · obtain ⟨k, u, hk, hu, e1, e2, e3⟩ := h.2.1 x hx
      refine ⟨k, u, hk, hu, e1, e2, ?_⟩
      rw [gupd_other _ _ (fun e => hno x hx (by rw [e1, e]))]; exact e3
    · exact ⟨n, v, hn, hv, rfl, rfl, gupd_same _ _ _⟩
  · by_cases e : k = n
    · subst e
      exact ⟨hn, ⟨D.kv k, D.vv v, clock⟩, by simp, rfl⟩
    · rw [gupd_other _ _ e] at hk
      obtain ⟨h1, x, hx, h2⟩ := h.2.2 k u hk
      exact ⟨h1, x, by simp only [Array.toList_push, List.mem_append]; exact Or.inl hx, h2⟩
theorem GEs.modify [DecidableEq K] (L : MK P kt D) {m : K → Option V} {es : Array MapEntry} {clock : Nat} (h : GEs D m es clock) {n : K} (hn : D.okK n) {v : V} (hv : D.okV v) {j : Nat} {e0 : MapEntry} (h2 : es.toList[j]? = some e0) (h3 : e0.key = D.kv n) :
    GEs D (gupd m n (some v)) (es.modify j (fun e' => { e' with key := D.kv n, val := D.vv v })) clock := by
  have hj : es[j]? = some e0 := by simpa using h2
  have hp := ((stamped_iff es clock).1 h.1).2.2
  have hlist : (es.modify j (fun e' => { e' with key := D.kv n, val := D.vv v })).toList = es.toList.set j { e0 with key := D.kv n, val := D.vv v } := by rw [Array.toList_modify, modify_eq_set _ _ _ _ h2]
  have hjl : j < es.toList.length := (List.getElem?_eq_some_iff.1 h2).1
  refine ⟨stamped_modify h.1 _ _ (fun _ _ => rfl) (fun e' _ he' => by rw [hj] at he'; cases he'; exact h3.symm), fun x hx => ?_, fun k u hk => ?_⟩
  · rw [hlist] at hx
    obtain ⟨i, hi, ex⟩ := List.getElem_of_mem hx
    rw [List.getElem_set] at ex
    split at ex
    · subst ex; exact ⟨n, v, hn, hv, rfl, rfl, gupd_same _ _ _⟩
    · rename_i hne
      have hi' : i < es.toList.length := by simpa using hi
      have hm : x ∈ es.toList := ex ▸ List.getElem_mem hi'
      obtain ⟨k, u, hk, hu, e1, e2, e3⟩ := h.2.1 x hm
      refine ⟨k, u, hk, hu, e1, e2, ?_⟩
      rw [gupd_other _ _ (fun e => hne ?_)]; exact e3
      subst e
      have : x = e0 := entry_eq_of_key hp hm (List.mem_of_getElem? h2) (e1.trans h3.symm)
      have hb := ((stamped_iff es clock).1 h.1).2.1
      refine (List.getElem?_inj (l := es.toList.map (·.born)) (by simpa using hjl) hb).1 ?_
      rw [List.getElem?_map, List.getElem?_map, h2, List.getElem?_eq_getElem hi', ex, this]
  · by_cases e : k = n
    · subst e
      exact ⟨hn, { e0 with key := D.kv k, val := D.vv v }, by rw [hlist]; exact List.mem_iff_getElem.2 ⟨j, by simpa using hjl, by simp⟩, rfl⟩
    · rw [gupd_other _ _ e] at hk
      obtain ⟨h1, x, hx, h4⟩ := h.2.2 k u hk
      refine ⟨h1, x, ?_, h4⟩
      rw [hlist]
      obtain ⟨i, hi, ex⟩ := List.getElem_of_mem hx
      refine List.mem_iff_getElem.2 ⟨i, by simpa using hi, ?_⟩
      rw [List.getElem_set, if_neg, ex]
      rintro rfl
      rw [List.getElem?_eq_getElem hi] at h2
      cases h2
      rw [ex, h4] at h3
      exact e (L.inj h1 hn h3)
theorem GEs.erase [DecidableEq K] (L : MK P kt D) {m : K → Option V} {es : Array MapEntry} {clock : Nat} (h : GEs D m es clock) {n : K} (hn : D.okK n) {j : Nat} {e0 : MapEntry} (h2 : es.toList[j]? = some e0) (h3 : e0.key = D.kv n) :
    GEs D (gupd m n none) (es.eraseIdxIfInBounds j) clock := by
  have hp := ((stamped_iff es clock).1 h.1).2.2
  have hjl : j < es.toList.length := (List.getElem?_eq_some_iff.1 h2).1
  have hsub : (es.eraseIdxIfInBounds j).toList = es.toList.eraseIdx j := by
    unfold Array.eraseIdxIfInBounds
    rw [dif_pos (by simpa using hjl)]
    simp
  refine ⟨stamped_erase h.1 j, fun x hx => ?_, fun k u hk => ?_⟩
  · rw [hsub, List.mem_eraseIdx_iff_getElem?] at hx
    obtain ⟨i, hne, hi⟩ := hx
    obtain ⟨k, u, hk, hu, e1, e2, e3⟩ := h.2.1 x (List.mem_of_getElem? hi)
    refine ⟨k, u, hk, hu, e1, e2, ?_⟩
    rw [gupd_other _ _ (fun e => hne ?_)]; exact e3
    subst e
    have hxe : x = e0 := entry_eq_of_key hp (List.mem_of_getElem? hi) (List.mem_of_getElem? h2) (e1.trans h3.symm)
    subst hxe
    have hb : (es.toList.map (·.born)).Nodup := ((stamped_iff es clock).1 h.1).2.1
    have hil : i < es.toList.length := (List.getElem?_eq_some_iff.1 hi).1
    refine (List.getElem?_inj (l := es.toList.map (·.born)) (by simpa using hil) hb).1 ?_
    rw [List.getElem?_map, List.getElem?_map, h2, hi]
  · by_cases e : k = n
    · subst e; rw [gupd_same] at hk; cases hk
    · rw [gupd_other _ _ e] at hk
      obtain ⟨h1, x, hx, h4⟩ := h.2.2 k u hk
      refine ⟨h1, x, ?_, h4⟩
      rw [hsub, List.mem_eraseIdx_iff_getElem?]
      obtain ⟨i, hi⟩ := List.getElem?_of_mem hx
      refine ⟨i, ?_, hi⟩
      rintro rfl
      rw [h2] at hi; cases hi
      rw [h4] at h3
      exact e (L.inj h1 hn h3)
theorem GMp.store [DecidableEq K] (L : MK P kt D) {X : World} {b : Nat} {m : K → Option V} (h : GMp D X b m) {t : TypeId} (ht : P.underlying t = some (.map kt vt)) (n : K) (hn : D.okK n) (v : V) (hv : D.okV v) :
    ∃ Y, (Instr.mapUpdate t (.map (some b)) (D.kv n) (D.vv v)).run P X = .ok () Y ∧ GMp D Y b (gupd m n (some v)) ∧ Chg (fun k => k = b) X Y ∧ Y.heap.size = X.heap.size := by
  obtain ⟨es, clock, hb, E⟩ := h
  obtain ⟨l, hl⟩ := L.key hn
  rcases E.find L n hn X with ⟨h1, _, h2⟩ | ⟨j, e, u, h1, h2, h3, _⟩
  · refine ⟨setBlock X b (.map (es.push ⟨D.kv n, D.vv v, clock⟩) (clock + 1)), ?_, ⟨_, _, heap_setBlock_same hb _, E.push hn hv h2⟩, gchg_setBlock hb _, by simp [setBlock]⟩
    simp [Instr.mapUpdate, run_underlying ht, MapKept.run_getObj_map hb, L.keyed.check X false hl, h1, MapKept.run_setObj_map _ hb, Result.andThen, setBlock]
  · have hj : es[j]? = some e := by simpa using h2
    refine ⟨setBlock X b (.map (es.modify j (fun e' => { e' with key := D.kv n, val := D.vv v })) clock), ?_, ⟨_, _, heap_setBlock_same hb _, E.modify L hn hv h2 h3⟩, gchg_setBlock hb _, by simp [setBlock]⟩
    simp [Instr.mapUpdate, run_underlying ht, MapKept.run_getObj_map hb, L.keyed.check X false hl, h1, hj, h3, L.keyed.stays X hl, MapKept.run_setObj_map _ hb, Result.andThen, setBlock]
theorem GMp.del [DecidableEq K] (L : MK P kt D) {X : World} {b : Nat} {m : K → Option V} (h : GMp D X b m) {t : TypeId} (ht : P.underlying t = some (.map kt vt)) (n : K) (hn : D.okK n) :
    ∃ Y, (∀ ty, (Builtin.delete_ #[t, kt] ty #[.map (some b), D.kv n]).run P X = .ok (.tuple #[]) Y) ∧ GMp D Y b (gupd m n none) ∧ Chg (fun k => k = b) X Y ∧ Y.heap.size = X.heap.size := by
  obtain ⟨es, clock, hb, E⟩ := h
  obtain ⟨l, hl⟩ := L.key hn
  rcases E.find L n hn X with ⟨h1, h0, h2⟩ | ⟨j, e, u, h1, h2, h3, _⟩
  · have hm : gupd m n none = m := by
      funext k
      by_cases e : k = n
      · subst e; rw [gupd_same, h0]
      · exact gupd_other _ _ e
    refine ⟨setBlock X b (.map es clock), ?_, ⟨_, _, heap_setBlock_same hb _, by rw [hm]; exact E⟩, gchg_setBlock hb _, by simp [setBlock]⟩
    intro ty; simp [Builtin.delete_, run_underlying ht, MapKept.run_getObj_map hb, L.keyed.check X _ hl, h1, MapKept.run_setObj_map _ hb, Result.andThen, setBlock]
  · refine ⟨setBlock X b (.map (es.eraseIdxIfInBounds j) clock), ?_, ⟨_, _, heap_setBlock_same hb _, E.erase L hn h2 h3⟩, gchg_setBlock hb _, by simp [setBlock]⟩
    intro ty; simp [Builtin.delete_, run_underlying ht, MapKept.run_getObj_map hb, L.keyed.check X _ hl, h1, MapKept.run_setObj_map _ hb, Result.andThen, setBlock]
/-- A range over the map in block b under way, its iterator in block r: `left` says which keys are still to come. -/
def GRg (D : MD K V) (X : World) (b r : Nat) (m : K → Option V) (left : K → Bool) (cnt : Nat) : Prop :=
  ∃ es clock since seen c0, X.heap[b]? = some (.map es clock) ∧ GEs D m es clock ∧ X.heap[r]? = some (.mapIter (some b) since seen c0) ∧ (∀ x ∈ es.toList, x.born < since) ∧ since ≤ c0 ∧ since ≤ clock ∧ (leftOf es seen).size = cnt ∧
    ∀ x ∈ es.toList, ∀ n, D.okK n → x.key = D.kv n → left n = !seen.contains x.born
theorem GRg.map {X : World} {b r : Nat} {m : K → Option V} {left : K → Bool} {cnt : Nat} (h : GRg D X b r m left cnt) : GMp D X b m := by
  obtain ⟨es, clock, since, seen, c0, hb, E, _⟩ := h
  exact ⟨es, clock, hb, E⟩
theorem GRg.lt {X : World} {b r : Nat} {m : K → Option V} {left : K → Bool} {cnt : Nat} (h : GRg D X b r m left cnt) : r < X.heap.size := by
  obtain ⟨es, clock, since, seen, c0, _, _, hr, _⟩ := h
  exact (Array.getElem?_eq_some_iff.1 hr).1
theorem GRg.of_blocks {X Y : World} {b r : Nat} {m : K → Option V} {left : K → Bool} {cnt : Nat} (h : GRg D X b r m left cnt) (hb : Y.heap[b]? = X.heap[b]?) (hr : Y.heap[r]? = X.heap[r]?) : GRg D Y b r m left cnt := by
  obtain ⟨es, clock, since, seen, c0, h1, h2, h3, h4⟩ := h
  exact ⟨es, clock, since, seen, c0, hb.trans h1, h2, hr.trans h3, h4⟩
theorem GRg.chg {M : Nat → Prop} {X Y : World} {b r : Nat} {m : K → Option V} {left : K → Bool} {cnt : Nat} (h : GRg D X b r m left cnt) (k : Chg M X Y) (hb : ¬ M b) (hr : ¬ M r) : GRg D Y b r m left cnt := h.of_blocks (k.block b h.map.lt hb) (k.block r h.lt hr)
theorem GRg.keep {X Y : World} {b r : Nat} {m : K → Option V} {left : K → Bool} {cnt : Nat} (h : GRg D X b r m left cnt) (k : Below X.heap.size X Y) : GRg D Y b r m left cnt := h.of_blocks (k.block b h.map.lt) (k.block r h.lt)
theorem GRg.left_eq {X : World} {b r : Nat} {m : K → Option V} {left : K → Bool} {cnt : Nat} (h : GRg D X b r m left cnt) : X.rangeLeft b r = cnt := by
  obtain ⟨es, clock, since, seen, c0, h1, _, h3, _, _, _, h5, _⟩ := h
  simp only [World.rangeLeft, h1, h3]; exact h5
theorem GRg.ne {X : World} {b r : Nat} {m : K → Option V} {left : K → Bool} {cnt : Nat} (h : GRg D X b r m left cnt) : r ≠ b := by
  obtain ⟨es, clock, since, seen, c0, h1, _, h3, _⟩ := h
  rintro rfl
  rw [h1] at h3; cases h3
theorem GMp.range (L : MK P kt D) {X : World} {b : Nat} {m : K → Option V} (h : GMp D X b m) {t : TypeId} (ht : P.underlying t = some (.map kt vt)) :
    ∃ Y cnt, (Instr.range t (.map (some b))).run P X = .ok (.pointer (some ⟨X.heap.size, 0, none⟩)) Y ∧ GRg D Y b X.heap.size m (fun n => (m n).isSome) cnt ∧ Below X.heap.size X Y ∧ Y.heap.size = X.heap.size + 1 := by
  have hlt := h.lt
  obtain ⟨es, clock, hb, E⟩ := h
  refine ⟨_, _, run_range_map X t _ _ b es clock ht hb, ⟨es, clock, clock, #[], clock, ((MapKept.heap_alloc X _).2 b hlt).trans hb, E, (MapKept.heap_alloc X _).1, E.1.1, Nat.le_refl _, Nat.le_refl _, rfl, fun x hx n hn hk => ?_⟩, balloc (Below.refl _ _) _, by simp⟩
  obtain ⟨v, _, _, hm⟩ := E.at L hx hn hk
  show (m n).isSome = _
  rw [hm]; simp
theorem GRg.next [DecidableEq K] (L : MK P kt D) {X : World} {b r : Nat} {m : K → Option V} {left : K → Bool} {cnt : Nat} (h : GRg D X b r m left cnt) :
    (cnt = 0 ∧ (∀ n v, m n = some v → left n = false) ∧ (∀ ty, (Instr.next (.pointer (some ⟨r, 0, none⟩)) false ty).run P X = .ok (.tuple #[.bool false]) X)) ∨
    ∃ n v Y cnt', D.okK n ∧ D.okV v ∧ m n = some v ∧ left n = true ∧ (∀ ty, (Instr.next (.pointer (some ⟨r, 0, none⟩)) false ty).run P X = .ok (.tuple #[.bool true, D.kv n, D.vv v]) Y) ∧
      GRg D Y b r m (fun k => left k && decide (k ≠ n)) cnt' ∧ cnt' < cnt ∧ Chg (fun k => k = r) X Y ∧ Y.heap.size = X.heap.size ∧ (Instr.entry (.pointer (some ⟨r, 0, none⟩))).run P Y = .ok (.tuple #[D.kv n, D.vv v]) Y := by
  have hne := h.ne
  obtain ⟨es, clock, since, seen, c0, hb, E, hr, hold, hsc, hsk, rfl, hl⟩ := h
  have hst := (stamped_iff es clock).1 E.1
  rcases run_next_at (P := P) X 0 r b since c0 seen es clock hr hb hold hsc with ⟨h0, hrun⟩ | ⟨e, he, w1, hal, hrun⟩
  · refine Or.inl ⟨h0, fun n v hm => ?_, fun _ => hrun⟩
    obtain ⟨hn, x, hx, hk⟩ := E.2.2 n v hm
    rw [hl x hx n hn hk, all_seen es seen h0 x hx]; rfl
  · obtain ⟨hem, hes⟩ := mem_left he
    obtain ⟨n, v, hn, hv, hk, hval, hm⟩ := E.2.1 e hem
    have hr1 : w1.heap[r]? = some (.mapIter (some b) since seen c0) := by rcases hal with rfl | rfl <;> exact hr
    have hb1 : w1.heap[b]? = some (.map es clock) := by rcases hal with rfl | rfl <;> exact hb
    have hset := heap_set (o' := .mapIter (some b) since (seen.push e.born) clock) hr1
    have hb' : (setBlock w1 r (.mapIter (some b) since (seen.push e.born) clock)).heap[b]? = some (.map es clock) := (hset.2 b (fun e1 => hne e1.symm)).trans hb1
    refine Or.inr ⟨n, v, setBlock w1 r (.mapIter (some b) since (seen.push e.born) clock), _, hn, hv, hm, by rw [hl e hem n hn hk, hes]; rfl, by rw [hk, hval] at hrun; exact fun _ => hrun, ⟨es, clock, since, seen.push e.born, clock, hb', E, hset.1, hold, hsk, hsk, rfl, fun x hx k hkl hxk => ?_⟩, left_shrinks es seen e he, ?_, ?_, ?_⟩
    · show (left k && decide (k ≠ n)) = _
      rw [hl x hx k hkl hxk, contains_push]
      by_cases hkn : k = n
      · subst hkn
        have : x = e := entry_eq_of_key hst.2.2 hx hem (hxk.trans hk.symm)
        subst this
        simp
      · have : (x.born == e.born) = false := by
          rw [beq_eq_false_iff_ne]
          intro hbe
          have := born_inj hst.2.1 hx hem hbe
          subst this
          exact hkn (L.inj hkl hn (hxk.symm.trans hk))
        rw [this]; simp [hkn]
    · rcases hal with rfl | rfl
      · exact gchg_setBlock hr _
      · exact ⟨rfl, rfl, rfl, by simp [setBlock], fun i _ hi => hset.2 i hi⟩
    · rcases hal with rfl | rfl <;> simp [setBlock]
    · have := run_entry_at (P := P) _ r b since seen es clock e hset.1 hb' hem hst.2.1
      rwa [hk, hval] at this
theorem GMp.clone {X : World} {b : Nat} {m : K → Option V} (h : GMp D X b m) : ∃ es clock, X.heap[b]? = some (.map es clock) ∧ GMp D (X.alloc (.map es clock)) X.heap.size m := by
  obtain ⟨es, clock, hb, E⟩ := h
  exact ⟨es, clock, hb, es, clock, (MapKept.heap_alloc X _).1, E⟩

end
end Go.Proofs.Ytcplhalgjjhmdaa
