/- slot: maps of words to values; worlds that differ in known blocks alone. -/
import Derived.Test.YtcplhalgjjhmdaaGe
import Derived.Maps.Range
import Derived.WideKeyArr2
import Derived.Laws.StructEq
import Derived.ChangeKeysEq
namespace Go.Proofs.Ytcplhalgjjhmdaa
open Go.RowKit Go.Shelf Go.ChangeMaps Go.MapKept

theorem int_beq (x y : Nat) : ((x : Int) == (y : Int)) = (x == y) := by rw [Bool.eq_iff_iff, beq_iff_eq, beq_iff_eq]; omega
/-- A world that differs from another in new blocks and in those of M alone. -/
def Chg (M : Nat → Prop) (w X : World) : Prop := X.os = w.os ∧ X.tape = w.tape ∧ X.output = w.output ∧ w.heap.size ≤ X.heap.size ∧ ∀ k, k < w.heap.size → ¬ M k → X.heap[k]? = w.heap[k]?
theorem Chg.refl (M : Nat → Prop) (w : World) : Chg M w w := ⟨rfl, rfl, rfl, Nat.le_refl _, fun _ _ _ => rfl⟩
theorem Chg.size {M : Nat → Prop} {w X : World} (h : Chg M w X) : w.heap.size ≤ X.heap.size := h.2.2.2.1
theorem Chg.block {M : Nat → Prop} {w X : World} (h : Chg M w X) (k : Nat) (hk : k < w.heap.size) (hm : ¬ M k) : X.heap[k]? = w.heap[k]? := h.2.2.2.2 k hk hm
theorem Chg.of {w X : World} {r : Option Nat} (h : w.grownBy X r) : Chg (fun k => some k = r) w X := ⟨h.os, h.tape, h.output, h.size, fun k hk hm => h.block k hk hm⟩
theorem Chg.mono {M N : Nat → Prop} {w X : World} (h : Chg M w X) (hM : ∀ k, k < w.heap.size → M k → N k) : Chg N w X := ⟨h.1, h.2.1, h.2.2.1, h.2.2.2.1, fun k hk hn => h.2.2.2.2 k hk fun hm => hn (hM k hk hm)⟩
theorem Chg.trans {M N : Nat → Prop} {w X Y : World} (h : Chg M w X) (k : Chg N X Y) (hN : ∀ k, k < w.heap.size → N k → M k) : Chg M w Y :=
  ⟨k.1.trans h.1, k.2.1.trans h.2.1, k.2.2.1.trans h.2.2.1, Nat.le_trans h.size k.size, fun i hi hm => (k.block i (Nat.lt_of_lt_of_le hi h.size) fun hn => hm (hN i hi hn)).trans (h.block i hi hm)⟩
theorem Chg.below {M : Nat → Prop} {n : Nat} {w X : World} (h : Chg M w X) (hn : n ≤ w.heap.size) (hM : ∀ k, k < n → ¬ M k) : Below n w X := ⟨h.1, h.2.1, h.2.2.1, h.size, fun k hk => h.block k (by omega) (hM k hk)⟩
theorem Chg.new {M : Nat → Prop} {w X : World} (h : Below w.heap.size w X) : Chg M w X := ⟨h.os, h.tape, h.output, h.size, fun k hk _ => h.block k hk⟩
theorem Chg.from {n : Nat} {w X : World} (h : Below n w X) : Chg (fun k => n ≤ k) w X := ⟨h.os, h.tape, h.output, h.size, fun k _ hm => h.block k (by omega)⟩
theorem Chg.grown {g : Nat} {w X : World} (h : Chg (fun k => k = g) w X) : w.grownBy X (some g) := ⟨h.1, h.2.1, h.2.2.1, h.size, fun k hk hm => h.block k hk fun e => hm (by rw [e])⟩
theorem Chg.alloc (M : Nat → Prop) (w : World) (o : Obj) : Chg M w (w.alloc o) := Chg.new ((Below.refl _ w).alloc (Nat.le_refl _) o)
theorem Chg.then_alloc {M : Nat → Prop} {w X : World} (h : Chg M w X) (o : Obj) : Chg M w (X.alloc o) := h.trans (Chg.alloc (fun _ => False) X o) (fun _ _ hf => hf.elim)
theorem Chg.set {M : Nat → Prop} {w X : World} (h : Chg M w X) (g i : Nat) (v : Value) (hg : g < w.heap.size → M g) : Chg M w (X.setCell ⟨g, i, none⟩ v) :=
  h.trans (Chg.of (grown_set' (grown_refl X g) i v)) (fun k hk e => by injection e with e; subst e; exact hg hk)
theorem Chg.drew {M : Nat → Prop} {w X : World} (h : Chg M w X) : Chg M w X.drew := ⟨h.1, h.2.1, h.2.2.1, h.2.2.2.1, h.2.2.2.2⟩
theorem Chg.drewN {M : Nat → Prop} {w X : World} (n : Nat) (h : Chg M w X) : Chg M w (X.drewN n) := ⟨h.1, h.2.1, h.2.2.1, h.2.2.2.1, h.2.2.2.2⟩
theorem Blk.chg {M : Nat → Prop} {X Y : World} {g : Nat} {t : TypeId} {cs : Array Value} (h : Blk X g t cs) (k : Chg M X Y) (hg : ¬ M g) : Blk Y g t cs := (k.block g h.lt hg).trans h
theorem not_or {p q : Prop} (h : ¬ p) (k : ¬ q) : ¬ (p ∨ q) := fun h' => h'.elim h k
/-- A value. -/
abbrev vV (n a : Nat) : Value := .agg #[.int .u64 (lb n 0), .int .u64 (lb n 1), .int .u64 (lb n 2), .int .u64 (lb n 3), .int .u64 (a : Nat)]
abbrev vA (n a : Nat) : Array Value := #[.int .u64 (lb n 0), .int .u64 (lb n 1), .int .u64 (lb n 2), .int .u64 (lb n 3), .int .u64 (a : Nat)]
noncomputable def vaF (i : Nat) : Field := match Try.prog.underlying 36 with
  | some (.struct fs) => (fs[i]?).getD default
  | _ => default
theorem undva : Try.prog.underlying 36 = some (.struct #[vaF 0, vaF 1]) := by kernel_rfl
theorem und_lab : Try.prog.underlying 34 = some (.int .u64) := by kernel_rfl
theorem und_word : Try.prog.underlying 33 = some (.array 4 31) := by kernel_rfl
theorem vaFn0 : (vaF 0).type = 33 ∧ (vaF 0).offset = 0 ∧ (vaF 0).name = "Word" := ⟨by kernel_rfl, by kernel_rfl, by kernel_rfl⟩
theorem vaFn1 : (vaF 1).type = 34 ∧ (vaF 1).offset = 4 ∧ (vaF 1).name = "Label" := ⟨by kernel_rfl, by kernel_rfl, by kernel_rfl⟩
theorem part_word (n a : Nat) (w : World) : (part 33 (vA n a) 0).run Try.prog w = .ok (.agg #[.int .u64 (lb n 0), .int .u64 (lb n 1), .int .u64 (lb n 2), .int .u64 (lb n 3)]) w := by
  simp [part, isAgg, run_underlying und_word]
theorem equalIn_word (d n m : Nat) (w : World) : (Op.equalIn (d + 1 + 1) 33 (W n) (W m)).run Try.prog w = .ok ((List.range 4).all fun j => lb n j == lb m j) w := by
  obtain ⟨i, hi⟩ : ∃ i, Try.prog.info? 31 = some i := Option.isSome_iff_exists.1 (by kernel_rfl)
  rw [run_equalIn_array w (d + 1) (Wc n) (Wc m) und_word hi, run_eqItems_ints d (show Try.prog.underlying 31 = some (.int .u64) by kernel_rfl) (by kernel_rfl) (Wc n) (Wc m) (lb n) (lb m) w (List.range 4) (fun j hj => by
    have hj : j < 4 := by simpa using hj
    match j, hj with | 0, _ | 1, _ | 2, _ | 3, _ => exact ⟨rfl, rfl⟩)]
theorem eqVal_run (n a m b : Nat) (w : World) : (binOp .eql 36 (vV n a) (vV m b)).run Try.prog w = .ok (.bool (((List.range 4).all fun j => lb n j == lb m j) && (a == b))) w := by
  have hf : Try.prog.fieldsOf 36 = #[vaF 0, vaF 1] := by unfold Program.fieldsOf; rw [undva]
  have h1 := part_word n a
  have h2 := part_word m b
  have h3 : ∀ w, (part 34 (vA n a) 4).run Try.prog w = .ok (.int .u64 (a : Nat)) w := fun w => run_part_plain w (by kernel_rfl) rfl
  have h4 : ∀ w, (part 34 (vA m b) 4).run Try.prog w = .ok (.int .u64 (b : Nat)) w := fun w => run_part_plain w (by kernel_rfl) rfl
  have h5 := equalIn_word 9997 n m
  rw [run_eql_struct, show (10000 : Nat) = 9999 + 1 from rfl, run_equalIn_struct w 9999 _ _ _ (by rw [hf]; exact undva) (by kernel_rfl), hf]
  have hg : (Op.eqFields 9999 (vA n a) (vA m b) [vaF 0, vaF 1]).run Try.prog w = .ok (((List.range 4).all fun j => lb n j == lb m j) && (a == b)) w := by
    simp only [Op.eqFields, vaFn0.1, vaFn0.2.1, vaFn0.2.2, vaFn1.1, vaFn1.2.1, vaFn1.2.2]
    rw [if_pos (by decide), if_pos (by decide)]
    simp only [Sem.run_bind, h1, h2, h3, h4, Result.andThen_ok, Sem.run_ite, Sem.run_pure]
    rw [show (9999 : Nat) = 9997 + 1 + 1 from rfl, h5, show (9997 + 1 + 1 : Nat) = 9998 + 1 from rfl]
    simp only [Result.andThen_ok, run_equalIn_int _ 9998 _ _ _ _ _ und_lab, int_beq]
    cases ((List.range 4).all fun j => lb n j == lb m j) <;> cases (a == b) <;> simp
  rw [show (#[vaF 0, vaF 1] : Array Field).toList = [vaF 0, vaF 1] from rfl, hg]
  rfl
theorem all4 (n m : Nat) (hn : n < MM) (hm : m < MM) : ((List.range 4).all fun j => lb n j == lb m j) = (n == m) := by
  rw [Bool.eq_iff_iff, List.all_eq_true, beq_iff_eq]
  constructor
  · intro h
    have := (lb_eq_iff n m).1 ⟨by simpa using h 0 (by decide), by simpa using h 1 (by decide), by simpa using h 2 (by decide), by simpa using h 3 (by decide)⟩
    rwa [Nat.mod_eq_of_lt hn, Nat.mod_eq_of_lt hm] at this
  · rintro rfl j _
    simp
/-- Values as pairs. -/
def okP (v : Nat × Nat) : Prop := v.1 < MM ∧ v.2 < 2 ^ 64
abbrev vP (v : Nat × Nat) : Value := vV v.1 v.2
theorem eqVal_any (v u : Nat × Nat) (hv : okP v) (hu : okP u) (w : World) : (binOp .eql 36 (vP v) (vP u)).run Try.prog w = .ok (.bool (decide (v = u))) w := by
  rw [eqVal_run, all4 _ _ hv.1 hu.1]
  refine congrArg (fun b => Result.ok (Value.bool b) w) ?_
  rw [Bool.eq_iff_iff]
  simp only [Bool.and_eq_true, beq_iff_eq, decide_eq_true_iff, Prod.ext_iff]
theorem okP0 : okP (0, 0) := ⟨by decide, by decide⟩
theorem lb0 (i : Nat) : lb 0 i = 0 := by unfold lb; simp
theorem vP0 : vP (0, 0) = .agg #[.int .u64 0, .int .u64 0, .int .u64 0, .int .u64 0, .int .u64 0] := by simp only [vP, vV, lb0]; rfl
theorem W_inj {n k : Nat} (hn : n < MM) (hk : k < MM) (h : W n = W k) : n = k := by
  simp only [W, Value.agg.injEq, Array.mk.injEq, List.cons.injEq, Value.int.injEq, true_and, and_true] at h
  have := (lb_eq_iff n k).1 ⟨h.1, h.2.1, h.2.2.1, h.2.2.2⟩
  rwa [Nat.mod_eq_of_lt hn, Nat.mod_eq_of_lt hk] at this
theorem vP_inj {v u : Nat × Nat} (hv : okP v) (hu : okP u) (h : vP v = vP u) : v = u := by
  simp only [vP, vV, Value.agg.injEq, Array.mk.injEq, List.cons.injEq, Value.int.injEq, true_and, and_true] at h
  have := (lb_eq_iff v.1 u.1).1 ⟨h.1, h.2.1, h.2.2.1, h.2.2.2.1⟩
  rw [Nat.mod_eq_of_lt hv.1, Nat.mod_eq_of_lt hu.1] at this
  exact Prod.ext this (by omega)
theorem wordKey : WideMaps.ArrKey Try.prog 33 31 4 := ⟨by kernel_rfl, by kernel_rfl, by kernel_rfl, by kernel_rfl⟩
theorem keyedW : Maps.Keyed Try.prog 33 := Maps.Keyed.of_law wordKey.law
theorem lb_wf (n i : Nat) : (Lit.int .u64 (lb n i)).wf = true := by
  have h1 : 0 ≤ lb n i := by unfold lb; exact Int.natCast_nonneg _
  have h2 : lb n i < 18446744073709551616 := by
    have : n / B64 ^ i % B64 < B64 := Nat.mod_lt _ B64_pos
    unfold lb; unfold B64 at *; omega
  have e1 : IntKind.u64.min = 0 := by decide
  have e2 : IntKind.u64.max = 18446744073709551615 := by decide
  simp only [Lit.wf, e1, e2, Bool.and_eq_true, decide_eq_true_eq]
  omega
theorem keyW (n : Nat) : ∃ l, keyOf Try.prog 33 (W n) = some l := by
  refine ⟨.string (keyBytes [.int .u64 (lb n 0), .int .u64 (lb n 1), .int .u64 (lb n 2), .int .u64 (lb n 3)]), ?_⟩
  obtain ⟨m0, hm0⟩ : ∃ m, Try.prog.types.size = m + 1 := ⟨Try.prog.types.size - 1, by kernel_rfl⟩
  have hkt := wordKey.keyType ⟨m0, hm0⟩
  have he : Try.prog.underlying 31 = some (.int .u64) := by kernel_rfl
  unfold keyOf
  simp only [wordKey.hu]
  rw [if_pos (by simp [hkt, Value.formed, wordKey.hu, wordKey.size]), hm0]
  unfold Program.keyLits
  simp only [wordKey.hu, Value.cells]
  rw [if_pos (by rw [wordKey.size]; rfl)]
  have hl : ∀ i, Program.keyLits Try.prog (m0 + 1) 31 [.int .u64 (lb n i)] = some [.int .u64 (lb n i)] := fun i => by
    unfold Program.keyLits
    simp only [he]
    rw [if_pos ⟨trivial, lb_wf n i⟩]
  simp [wordKey.one, hl, List.range_succ]
/-- A function turned at one place. -/
def upd (m : Nat → Option (Nat × Nat)) (n : Nat) (o : Option (Nat × Nat)) : Nat → Option (Nat × Nat) := fun k => if k = n then o else m k
theorem upd_same (m : Nat → Option (Nat × Nat)) (n : Nat) (o : Option (Nat × Nat)) : upd m n o n = o := if_pos rfl
theorem upd_other (m : Nat → Option (Nat × Nat)) {n k : Nat} (o : Option (Nat × Nat)) (h : k ≠ n) : upd m n o k = m k := if_neg h
def EnOk (m : Nat → Option (Nat × Nat)) (x : MapEntry) : Prop := ∃ n v, n < MM ∧ okP v ∧ x.key = W n ∧ x.val = vP v ∧ m n = some v
def EsOk (m : Nat → Option (Nat × Nat)) (es : Array MapEntry) (clock : Nat) : Prop := Stamped es clock ∧ (∀ x ∈ es.toList, EnOk m x) ∧ ∀ n v, m n = some v → n < MM ∧ ∃ x ∈ es.toList, x.key = W n
/-- Block b is a map that holds m. -/
def Mp (X : World) (b : Nat) (m : Nat → Option (Nat × Nat)) : Prop := ∃ es clock, X.heap[b]? = some (.map es clock) ∧ EsOk m es clock
theorem Mp.lt {X : World} {b : Nat} {m : Nat → Option (Nat × Nat)} (h : Mp X b m) : b < X.heap.size := by
  obtain ⟨es, clock, hb, _⟩ := h
  exact (Array.getElem?_eq_some_iff.1 hb).1
theorem Mp.of_block {X Y : World} {b : Nat} {m : Nat → Option (Nat × Nat)} (h : Mp X b m) (hk : Y.heap[b]? = X.heap[b]?) : Mp Y b m := by
  obtain ⟨es, clock, hb, r⟩ := h
  exact ⟨es, clock, hk.trans hb, r⟩
theorem Mp.chg {M : Nat → Prop} {X Y : World} {b : Nat} {m : Nat → Option (Nat × Nat)} (h : Mp X b m) (k : Chg M X Y) (hb : ¬ M b) : Mp Y b m := h.of_block (k.block b h.lt hb)
theorem Mp.keep {X Y : World} {b : Nat} {m : Nat → Option (Nat × Nat)} (h : Mp X b m) (k : Below X.heap.size X Y) : Mp Y b m := h.of_block (k.block b h.lt)
theorem Mp.drew {X : World} {b : Nat} {m : Nat → Option (Nat × Nat)} (h : Mp X b m) : Mp X.drew b m := h
theorem Mp.ok {X : World} {b : Nat} {m : Nat → Option (Nat × Nat)} (h : Mp X b m) {n : Nat} {v : Nat × Nat} (hn : m n = some v) : n < MM ∧ okP v := by
  obtain ⟨es, clock, hb, _, h1, h2⟩ := h
  obtain ⟨hl, x, hx, hk⟩ := h2 n v hn
  obtain ⟨n', v', hn', hv', hk', _, hm'⟩ := h1 x hx
  have := W_inj hn' hl (hk'.symm.trans hk)
  subst this
  rw [hn] at hm'; cases hm'
  exact ⟨hl, hv'⟩
theorem Mp.made (X : World) (c : Nat) : Mp (X.alloc (.map #[] c)) X.heap.size (fun _ => none) :=
  ⟨#[], c, (MapKept.heap_alloc X _).1, stamped_empty c, by simp, by simp⟩
theorem EsOk.keys {m : Nat → Option (Nat × Nat)} {es : Array MapEntry} {clock : Nat} (h : EsOk m es clock) : ∀ e ∈ es.toList, ∃ l, keyOf Try.prog 33 e.key = some l := fun e he => by
  obtain ⟨n, v, _, _, hk, _⟩ := h.2.1 e he
  rw [hk]; exact keyW n
theorem EsOk.at {m : Nat → Option (Nat × Nat)} {es : Array MapEntry} {clock : Nat} (h : EsOk m es clock) {e : MapEntry} (he : e ∈ es.toList) {n : Nat} (hn : n < MM) (hk : e.key = W n) : ∃ v, okP v ∧ e.val = vP v ∧ m n = some v := by
  obtain ⟨n', v, hn', hv, hk', hval, hm⟩ := h.2.1 e he
  have := W_inj hn' hn (hk'.symm.trans hk)
  subst this
  exact ⟨v, hv, hval, hm⟩
theorem EsOk.find {m : Nat → Option (Nat × Nat)} {es : Array MapEntry} {clock : Nat} (h : EsOk m es clock) (n : Nat) (hn : n < MM) (w : World) :
    ((Instr.findKey 33 (W n) es.toList).run Try.prog w = .ok none w ∧ m n = none ∧ ∀ e ∈ es.toList, e.key ≠ W n) ∨
    ∃ j e v, (Instr.findKey 33 (W n) es.toList).run Try.prog w = .ok (some (j, e.val)) w ∧ es.toList[j]? = some e ∧ e.key = W n ∧ e.val = vP v ∧ m n = some v ∧ okP v := by
  obtain ⟨l, hl⟩ := keyW n
  rcases keyedW.find w hl es.toList h.keys with ⟨h1, h2⟩ | ⟨j, e, h1, h2, h3⟩
  · refine Or.inl ⟨h1, ?_, h2⟩
    cases hm : m n with
    | none => rfl
    | some v =>
      obtain ⟨_, x, hx, hk⟩ := h.2.2 n v hm
      exact absurd hk (h2 x hx)
  · obtain ⟨v, hv, hval, hm⟩ := h.at (List.mem_of_getElem? h2) hn h3
    exact Or.inr ⟨j, e, v, h1, h2, h3, hval, hm, hv⟩
/-- What a map has of a key. -/
def lk (m : Nat → Option (Nat × Nat)) (n : Nat) : Nat × Nat := (m n).getD (0, 0)
theorem Mp.okL {X : World} {b : Nat} {m : Nat → Option (Nat × Nat)} (h : Mp X b m) (n : Nat) : okP (lk m n) := by
  unfold lk
  cases hm : m n with
  | none => exact okP0
  | some v => exact (h.ok hm).2
theorem zeroVal (w : World) : (zeroValue 36).run Try.prog w = .ok (vP (0, 0)) w := by rw [vP0]; kernel_rfl
theorem Mp.look {X : World} {b : Nat} {m : Nat → Option (Nat × Nat)} (h : Mp X b m) {t : TypeId} (ht : Try.prog.underlying t = some (.map 33 36)) (n : Nat) (hn : n < MM) (c : Bool) :
    (Instr.lookup t (.map (some b)) (W n) c).run Try.prog X = .ok (if c then .tuple #[vP (lk m n), .bool (m n).isSome] else vP (lk m n)) X := by
  obtain ⟨es, clock, hb, E⟩ := h
  obtain ⟨l, hl⟩ := keyW n
  rcases E.find n hn X with ⟨h1, h2, _⟩ | ⟨j, e, v, h1, _, _, h4, h5, _⟩
  · cases c <;> simp [Instr.lookup, run_underlying ht, MapKept.run_getObj_map hb, keyedW.check X _ hl, h1, Result.andThen, lk, h2, lb0]
  · cases c <;> simp [Instr.lookup, run_underlying ht, MapKept.run_getObj_map hb, keyedW.check X _ hl, h1, Result.andThen, lk, h5, h4]
theorem look_nilMap {t : TypeId} (ht : Try.prog.underlying t = some (.map 33 36)) (n : Nat) (c : Bool) (X : World) :
    (Instr.lookup t (.map none) (W n) c).run Try.prog X = .ok (if c then .tuple #[vP (0, 0), .bool false] else vP (0, 0)) X := by
  obtain ⟨l, hl⟩ := keyW n
  exact Maps.look_nil c keyedW ht (zeroVal X) hl
theorem Mp.len {X : World} {b : Nat} {m : Nat → Option (Nat × Nat)} (h : Mp X b m) {t : TypeId} (ht : Try.prog.underlying t = some (.map 33 36)) (ty : TypeId) :
    ∃ k : Nat, (Builtin.len_ #[t] ty #[.map (some b)]).run Try.prog X = .ok (.int .i64 k) X ∧ (k = 0 ↔ ∀ n, m n = none) := by
  obtain ⟨es, clock, hb, E⟩ := h
  refine ⟨es.size, by simp [Builtin.len_, run_underlying ht, MapKept.run_getObj_map hb, goInt, Result.andThen], fun h0 n => ?_, fun h0 => ?_⟩
  · cases hm : m n with
    | none => rfl
    | some v =>
      obtain ⟨_, x, hx, _⟩ := E.2.2 n v hm
      have : es = #[] := Array.eq_empty_of_size_eq_zero h0
      subst this; simp at hx
  · rcases Nat.eq_zero_or_pos es.size with h | h
    · exact h
    · obtain ⟨n, v, _, _, _, _, hm⟩ := E.2.1 es[0] (by simp)
      rw [h0 n] at hm; cases hm

end Go.Proofs.Ytcplhalgjjhmdaa
