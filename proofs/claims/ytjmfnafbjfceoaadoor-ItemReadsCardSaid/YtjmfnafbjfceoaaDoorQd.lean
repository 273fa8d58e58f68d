/- Texts laid into one: Qd. -/
import Derived.Test.YtjmfnafbjfceoaaDoorQc
import Derived.MapKept
import Derived.Laws.BytesString
/- item: the reader: kinds, take. -/
namespace Go.Proofs.YtjmfnafbjfceoaaDoor
open Go.RowKit Go.Shelf
attribute [local irreducible] lb wdG byA byC heL
theorem undM : Tryd.prog.underlying 64 = some (.map 71 90) := by kernel_rfl
theorem undK : Tryd.prog.underlying 71 = some (.int .i64) := by kernel_rfl
theorem mk_map (w : World) : (Instr.makeMap 64 none).run Tryd.prog w = .ok (.map (some w.heap.size)) (w.alloc (.map #[] 0)) := by kernel_rfl
theorem check_int (e : Bool) (k : Int) (w : World) : (Instr.checkKey e 10000 71 (.int .i64 k)).run Tryd.prog w = .ok () w := by
  rw [show (10000 : Nat) = 9999 + 1 from rfl]
  unfold Instr.checkKey
  simp [run_underlying undK]
theorem find_int (k : Int) (es : List MapEntry) (r : Option (Nat × Value)) (h : Instr.findNow (.int .i64) (.int .i64 k) es 0 = some r) (w : World) : (Instr.findKey 71 (.int .i64 k) es).run Tryd.prog w = .ok r w := by
  unfold Instr.findKey
  simp [run_underlying undK, h]
theorem gob_map {P : Program} {w : World} {r : Nat} {es : Array MapEntry} {clock : Nat} (hb : w.heap[r]? = some (.map es clock)) : (getObj r).run P w = .ok (.map es clock) w := by simp [getObj, Sem.run, hb]
theorem sob_map {P : Program} {w : World} {r : Nat} {es : Array MapEntry} {clock : Nat} (o : Obj) (hb : w.heap[r]? = some (.map es clock)) : (setObj r o).run P w = .ok () (w.putObj r o) := by simp [setObj, Sem.run, hb, World.putObj]
theorem ins_new (b : Nat) (es : Array MapEntry) (c : Nat) (k : Int) (f : Value) (w : World) (hb : w.heap[b]? = some (.map es c)) (hno : Instr.findNow (.int .i64) (.int .i64 k) es.toList 0 = some none) :
    (Instr.mapUpdate 64 (.map (some b)) (.int .i64 k) f).run Tryd.prog w = .ok () (w.putObj b (.map (es.push { key := .int .i64 k, val := f, born := c }) (c + 1))) := by
  unfold Instr.mapUpdate
  simp [run_underlying undM, gob_map hb, check_int, find_int k _ _ hno, sob_map _ hb]
theorem look_at (b : Nat) (es : Array MapEntry) (c : Nat) (k : Int) (i : Nat) (v : Value) (w : World) (hb : w.heap[b]? = some (.map es c)) (hat : Instr.findNow (.int .i64) (.int .i64 k) es.toList 0 = some (some (i, v))) :
    (Instr.lookup 64 (.map (some b)) (.int .i64 k) false).run Tryd.prog w = .ok v w := by
  unfold Instr.lookup
  simp [run_underlying undM, gob_map hb, check_int, find_int k _ _ hat]
/-- The map of kinds. -/
def kES : Array MapEntry := #[{ key := .int .i64 0, val := .func (.func 53) #[] #[], born := 0 }, { key := .int .i64 1, val := .func (.func 53) #[] #[], born := 1 }, { key := .int .i64 2, val := .func (.func 54) #[] #[], born := 2 }]
def KM (w : World) (b : Nat) : Prop := w.heap[b]? = some (.map kES 3)
theorem KM.keep {w X : World} {b : Nat} (h : KM w b) (k : Below w.heap.size w X) : KM X b := (k.block b (Array.getElem?_eq_some_iff.1 h).1).trans h

set_option maxRecDepth 100000 in
set_option maxHeartbeats 2000000 in
theorem kinds_any (w : World) :
    Calls Tryd.prog 33 #[] w fun e w' => ∃ b, e = .returned (.map (some b)) ∧ w.heap.size ≤ b ∧ KM w' b ∧ Below w.heap.size w w' := by
  have i0 := ins_new w.heap.size #[] 0 0 (.func (.func 53) #[] #[]) (w.alloc (.map #[] 0)) (World.alloc_heap_new w _) rfl
  obtain ⟨w1, hw1⟩ : ∃ w1, (w.alloc (.map #[] 0)).putObj w.heap.size (.map (#[].push { key := .int .i64 0, val := .func (.func 53) #[] #[], born := 0 }) (0 + 1)) = w1 := ⟨_, rfl⟩
  have h1 : w1.heap[w.heap.size]? = some (.map (#[].push { key := .int .i64 0, val := .func (.func 53) #[] #[], born := 0 }) (0 + 1)) := by rw [← hw1]; exact World.putObj_heap_same (by simp)
  have b1 : Below w.heap.size w w1 := by rw [← hw1]; exact ((Below.refl _ w).alloc (Nat.le_refl _) _).trans (below_put _ _ (Nat.le_refl _))
  rw [hw1] at i0
  have i1 := ins_new w.heap.size _ _ 1 (.func (.func 53) #[] #[]) w1 h1 rfl
  obtain ⟨w2, hw2⟩ : ∃ w2, w1.putObj w.heap.size (.map ((#[].push { key := .int .i64 0, val := .func (.func 53) #[] #[], born := 0 }).push { key := .int .i64 1, val := .func (.func 53) #[] #[], born := 0 + 1 }) (0 + 1 + 1)) = w2 := ⟨_, rfl⟩
  have hl1 := (Array.getElem?_eq_some_iff.1 h1).1
  have h2 : w2.heap[w.heap.size]? = some (.map ((#[].push { key := .int .i64 0, val := .func (.func 53) #[] #[], born := 0 }).push { key := .int .i64 1, val := .func (.func 53) #[] #[], born := 0 + 1 }) (0 + 1 + 1)) := by rw [← hw2]; exact World.putObj_heap_same hl1
  have b2 : Below w.heap.size w w2 := by rw [← hw2]; exact b1.trans (below_put _ _ (Nat.le_refl _))
  rw [hw2] at i1
  have i2 := ins_new w.heap.size _ _ 2 (.func (.func 54) #[] #[]) w2 h2 rfl
  obtain ⟨w3, hw3⟩ : ∃ w3, w2.putObj w.heap.size (.map (((#[].push { key := .int .i64 0, val := .func (.func 53) #[] #[], born := 0 }).push { key := .int .i64 1, val := .func (.func 53) #[] #[], born := 0 + 1 }).push { key := .int .i64 2, val := .func (.func 54) #[] #[], born := 0 + 1 + 1 }) (0 + 1 + 1 + 1)) = w3 := ⟨_, rfl⟩
  have h3 : KM w3 w.heap.size := by rw [← hw3]; exact World.putObj_heap_same (Array.getElem?_eq_some_iff.1 h2).1
  have b3 : Below w.heap.size w w3 := by rw [← hw3]; exact b2.trans (below_put _ _ (Nat.le_refl _))
  rw [hw3] at i2
  have hmm := mk_map w
  have HF := Lib.hid (And.intro h3 b3)
  clear hw1 hw2 hw3 h1 h2 h3 b1 b2 b3 hl1
  go_enter Tryd.func33, Tryd.ntmps33
  go_wp2_with fail
  go_ret
  exact ⟨_, rfl, Nat.le_refl _, HF.out⟩
end Go.Proofs.YtjmfnafbjfceoaaDoor

/- item: the reader's take. -/
namespace Go.Proofs.YtjmfnafbjfceoaaDoor
open Go.RowKit Go.Shelf
attribute [local irreducible] lb wdG byA byC heL
theorem cutU (x : Option Addr) (m n c : Nat) (hk : n ≤ c) (w : World) : (Instr.slice 66 (.slice x m c) none (some (.int .u64 (n : Nat))) none).run Tryd.prog w = .ok (.slice x n c) w := by
  have h := run_slice_h (P := Tryd.prog) (w := w) (t := 66) (a := x) (len := m) (cap := c) (ht := by kernel_rfl) .u64 (n : Int) (by omega) (by omega)
  rw [h, show Tryd.prog.elem 66 = 5 by kernel_rfl, show (sizeOf 5).run Tryd.prog w = .ok 1 w by kernel_rfl]
  simp only [Result.andThen_ok, sliced, Int.toNat_natCast, Nat.sub_zero]
  have he : (if c = 0 then x else x.map (·.add (0 * 1))) = x := by
    split
    · rfl
    · cases x with
      | none => rfl
      | some a => simp [Addr.add]
  rw [he]
theorem dropU (x : Option Addr) (m n c : Nat) (hk : n ≤ m) (w : World) : (Instr.slice 66 (.slice x m c) (some (.int .u64 (n : Nat))) none none).run Tryd.prog w = .ok (.slice (if c = n then x else x.map (·.add n)) (m - n) (c - n)) w := by
  have h := run_slice_l (P := Tryd.prog) (w := w) (t := 66) (a := x) (len := m) (cap := c) (ht := by kernel_rfl) .u64 (n : Int) (by omega) (by omega)
  rw [h, show Tryd.prog.elem 66 = 5 by kernel_rfl, show (sizeOf 5).run Tryd.prog w = .ok 1 w by kernel_rfl]
  simp only [Result.andThen_ok, sliced, Int.toNat_natCast, Nat.mul_one]
theorem Bt.take {B : Nat} {X : World} {x : Option Addr} {c : Nat} {l : List Nat} (h : Bt B X (.slice x l.length c) l) (n : Nat) (hn : n ≤ l.length) : Bt B X (.slice x n c) (l.take n) := by
  obtain ⟨h1, x', cap, h2, h3, h4, h5⟩ := h
  injection h2 with e1 e2 e3
  subst e1 e3
  have hl : (l.take n).length = n := by rw [List.length_take]; omega
  refine ⟨fun z hz => h1 z (List.mem_of_mem_take hz), x, c, by rw [hl], by rw [hl]; omega, h4, ?_⟩
  rcases h5 with ⟨hx, hl0, hc⟩ | ⟨b, o, hx, hb, hc⟩
  · exact .inl ⟨hx, by rw [hl0]; simp, hc⟩
  · refine .inr ⟨b, o, hx, fun hne => hb (fun e => hne (by rw [e]; simp)), fun k u hu => hc k u ?_⟩
    rw [List.getElem?_take] at hu
    split at hu
    · exact hu
    · cases hu
theorem Bt.drop {B : Nat} {X : World} {x : Option Addr} {c : Nat} {l : List Nat} (h : Bt B X (.slice x l.length c) l) (n : Nat) (hn : n ≤ l.length) : Bt B X (.slice (if c = n then x else x.map (·.add n)) (l.length - n) (c - n)) (l.drop n) := by
  obtain ⟨h1, x', cap, h2, h3, h4, h5⟩ := h
  injection h2 with e1 e2 e3
  subst e1 e3
  have hl : (l.drop n).length = l.length - n := by rw [List.length_drop]
  refine ⟨fun z hz => h1 z (List.mem_of_mem_drop hz), _, _, by rw [hl], by rw [hl]; omega, by omega, ?_⟩
  rcases h5 with ⟨hx, hl0, hc⟩ | ⟨b, o, hx, hb, hc⟩
  · exact .inl ⟨by rw [hx]; split <;> rfl, by rw [hl0]; simp, by omega⟩
  · subst hx
    by_cases hcn : c = n
    · rw [if_pos hcn]
      have hle : l.drop n = [] := List.drop_eq_nil_of_le (by omega)
      exact .inr ⟨b, o, rfl, fun hne => (hne hle).elim, fun k u hu => by rw [hle] at hu; simp at hu⟩
    · rw [if_neg hcn]
      refine .inr ⟨b, o + n, by simp [Go.WideShapes.add_plain], fun hne => hb (fun e => hne (by rw [e]; simp)), fun k u hu => ?_⟩
      rw [List.getElem?_drop] at hu
      rw [Nat.add_assoc]
      exact hc (n + k) u hu

set_option maxRecDepth 100000 in
set_option maxHeartbeats 2000000 in
theorem take_fits (R : Nat) (x : Option Addr) (m n c : Nat) (hn : n ≤ m) (hm : m ≤ c) (hc : c ≤ 9223372036854775807) (w : World) (hr : w.cell? ⟨R, 0, none⟩ = some (.slice x m c)) (hz : w.frozen? ⟨R, 0, none⟩ = false) :
    Calls Tryd.prog 56 #[.pointer (some ⟨R, 0, none⟩), .int .u64 n] w fun e w' => e = .returned (.slice x n c) ∧ w' = w.setCell ⟨R, 0, none⟩ (.slice (if c = n then x else x.map (·.add n)) (m - n) (c - n)) := by
  have w1 : IntKind.u64.wrap (m : Int) = (m : Int) := by rw [IntKind.wrap_u64]; omega
  have g1 : ¬ ((m : Int) < (n : Int)) := by omega
  have hcu := cutU x m n c (by omega)
  have hdu := dropU x m n c hn
  obtain ⟨y, hy⟩ : ∃ y, (if c = n then x else x.map (·.add n)) = y := ⟨_, rfl⟩
  rw [hy] at hdu ⊢
  clear hy hm
  go_enter Tryd.func56, Tryd.ntmps56
  go_wp2_with fail
  go_ret
  exact ⟨rfl, rfl⟩
set_option maxRecDepth 100000 in
set_option maxHeartbeats 2000000 in
theorem take_over (R : Nat) (x : Option Addr) (m n c : Nat) (hn : m < n) (hm : m ≤ 9223372036854775807) (w : World) (hr : w.cell? ⟨R, 0, none⟩ = some (.slice x m c)) :
    Calls Tryd.prog 56 #[.pointer (some ⟨R, 0, none⟩), .int .u64 n] w fun e w' => e = .panicked [{ v := .iface 28 (.int .i64 160), recovered := false }] ∧ w = w' := by
  have w1 : IntKind.u64.wrap (m : Int) = (m : Int) := by rw [IntKind.wrap_u64]; omega
  have g1 : ((m : Int) < (n : Int)) := by omega
  go_enter Tryd.func56, Tryd.ntmps56
  go_wp2_with fail
  exact ⟨rfl, rfl, rfl⟩
end Go.Proofs.YtjmfnafbjfceoaaDoor

/- item: bytes as a string; Equal, HasPrefix; Word of any item. -/
namespace Go.Proofs.YtjmfnafbjfceoaaDoor
open Go.RowKit Go.Shelf
attribute [local irreducible] lb wdG byA byC heL
/-- Bytes as a string. -/
def toS (l : List Nat) : ByteArray := ⟨(l.map UInt8.ofNat).toArray⟩
theorem fold_toS (l : List Nat) : ∀ r : ByteArray, (l.map fun n : Nat => (n : Int)).foldl (fun r n => r.push (UInt8.ofNat n.toNat)) r = ⟨r.data ++ (l.map UInt8.ofNat).toArray⟩ := by
  induction l with
  | nil => intro r; simp
  | cons a l ih =>
    intro r
    simp only [List.map_cons, List.foldl_cons]
    rw [ih]
    cases r
    simp [ByteArray.push]
theorem toS_inj {l m : List Nat} (hl : ∀ x ∈ l, x < 256) (hm : ∀ x ∈ m, x < 256) (h : toS l = toS m) : l = m := by
  unfold toS at h
  injection h with h
  have h2 : l.map UInt8.ofNat = m.map UInt8.ofNat := by simpa using h
  have e : ∀ k : List Nat, (∀ x ∈ k, x < 256) → (k.map UInt8.ofNat).map UInt8.toNat = k := fun k hk => by
    rw [List.map_map]
    conv => rhs; rw [← List.map_id k]
    refine List.map_congr_left fun x hx => ?_
    have := hk x hx
    simp [Function.comp]; omega
  rw [← e l hl, ← e m hm, h2]
theorem toS_list (l : List Nat) : (toS l).toList = l.map UInt8.ofNat := by unfold toS; simp [go_sem]
theorem conv_bytes (B : Nat) (v : Value) (l : List Nat) (w : World) (h : Bt B w v l) (hl : l.length ≤ 100000) : (convert 22 9 v).run Tryd.prog w = .ok (.string (toS l)) w := by
  obtain ⟨h1, x, cap, rfl, h3, h4, h5⟩ := h
  rw [run_convert_bytes_string w _ _ 5 x _ _ (by kernel_rfl) (by kernel_rfl) (by kernel_rfl)]
  rcases h5 with ⟨rfl, rfl, rfl⟩ | ⟨b, o, rfl, hb, hc⟩
  · rfl
  · have hload : (loadCells ⟨b, o, none⟩ l.length).run Tryd.prog w = .ok ((l.map fun n : Nat => (n : Int)).map (Value.int .u8)).toArray w := by
      have h := run_loadCells_list (P := Tryd.prog) w ⟨b, o, none⟩ (bvs l) (fun j u hj => by
        rw [bvs_get] at hj
        cases hmj : l[j]? with
        | none => rw [hmj] at hj; cases hj
        | some z =>
          rw [hmj] at hj
          cases hj
          rw [Go.WideShapes.add_plain]
          exact hc j z hmj)
      rw [bvs_len] at h
      rw [h, List.map_map]
      rfl
    rw [run_bytesToString w _ _ _ (l.map fun n : Nat => (n : Int)) hload, fold_toS]
    simp [toS]
set_option maxRecDepth 100000 in
set_option maxHeartbeats 2000000 in
theorem equal_any (B C : Nat) (v u : Value) (l m : List Nat) (w : World) (hv : Bt B w v l) (hu : Bt C w u m) (hl : l.length ≤ 100000) (hm : m.length ≤ 100000) :
    Calls Tryd.prog 31 #[v, u] w fun e w' => e = .returned (.bool (decide (l = m))) ∧ w = w' := by
  have h1 := conv_bytes B v l w hv hl
  have h2 := conv_bytes C u m w hu hm
  have he : ((toS l).toList == (toS m).toList) = decide (l = m) := by
    rw [Bool.eq_iff_iff, beq_iff_eq, decide_eq_true_iff, toS_list, toS_list]
    exact ⟨fun h => toS_inj hv.1 hu.1 (by unfold toS; rw [h]), fun h => by rw [h]⟩
  obtain ⟨q, hq⟩ : ∃ q, decide (l = m) = q := ⟨_, rfl⟩
  rw [hq] at he ⊢
  obtain ⟨_, x, c, rfl, _⟩ := hv
  obtain ⟨_, y, d, rfl, _⟩ := hu
  generalize toS l = s1 at h1 he
  generalize toS m = s2 at h2 he
  clear hq
  go_enter Tryd.func31, Tryd.ntmps31
  go_wp2_with fail
  go_ret
  exact ⟨by rw [← he]; rfl, rfl⟩

theorem cutI (x : Option Addr) (m n c : Nat) (hk : n ≤ c) (w : World) : (Instr.slice 22 (.slice x m c) none (some (.int .i64 (n : Nat))) none).run Tryd.prog w = .ok (.slice x n c) w := by
  have h := run_slice_h (P := Tryd.prog) (w := w) (t := 22) (a := x) (len := m) (cap := c) (ht := by kernel_rfl) .i64 (n : Int) (by omega) (by omega)
  rw [h, show Tryd.prog.elem 22 = 5 by kernel_rfl, show (sizeOf 5).run Tryd.prog w = .ok 1 w by kernel_rfl]
  simp only [Result.andThen_ok, sliced, Int.toNat_natCast, Nat.sub_zero]
  have he : (if c = 0 then x else x.map (·.add (0 * 1))) = x := by
    split
    · rfl
    · cases x with
      | none => rfl
      | some a => simp [Addr.add]
  rw [he]
set_option maxRecDepth 100000 in
set_option maxHeartbeats 2000000 in
/-- Whether bytes begin with a nought. -/
theorem prefix0_any (B C : Nat) (v : Value) (l : List Nat) (y : Option Addr) (d : Nat) (w : World) (hv : Bt B w v l) (hu : Bt C w (.slice y 1 d) [0]) (hl : l.length ≤ 100000) :
    Calls Tryd.prog 41 #[v, .slice y 1 d] w fun e w' => e = .returned (.bool (decide (l.head? = some 0))) ∧ w = w' := by
  obtain ⟨_, x, c, rfl, hc, _⟩ := id hv
  by_cases h0 : l = []
  · subst h0
    go_enter Tryd.func41, Tryd.ntmps41
    go_wp2_with fail
    go_ret
    exact ⟨rfl, rfl⟩
  · have hpos : 0 < l.length := List.length_pos_iff.2 h0
    have ht := hv.take 1 (by omega)
    have hE := equal_any B C _ _ _ _ w ht hu (by simp; omega) (by simp)
    have hd : decide (l.take 1 = [0]) = decide (l.head? = some 0) := by
      cases l with
      | nil => exact (h0 rfl).elim
      | cons a l => simp
    rw [hd] at hE
    have HE := Lib.hid hE
    have gc : (1 : Int) ≤ (c : Int) := by omega
    have g : (1 : Int) ≤ (l.length : Int) := by omega
    have g' : 1 ≤ l.length := by omega
    obtain ⟨q, hq⟩ : ∃ q, decide (l.head? = some 0) = q := ⟨_, rfl⟩
    rw [hq] at HE ⊢
    obtain ⟨n, hn⟩ : ∃ n, l.length = n := ⟨_, rfl⟩
    rw [hn] at g g' ⊢
    clear hE hd ht hv hu hq hn h0 hpos hl hc
    go_enter Tryd.func41, Tryd.ntmps41
    go_wp2_with fail
    refine HE.out.mono ?_
    rintro e w2 ⟨rfl, rfl⟩
    go_wp2_with fail
    go_ret
    exact ⟨rfl, rfl⟩

theorem gset4 (X : World) (g : Nat) (v0 v1 v2 v3 : Value) : X.grownBy ((((X.setCell ⟨g, 0, none⟩ v0).setCell ⟨g, 1, none⟩ v1).setCell ⟨g, 2, none⟩ v2).setCell ⟨g, 3, none⟩ v3) (some g) :=
  grown_set' (grown_set' (grown_set' (grown_set' (grown_refl X g) 0 v0) 1 v1) 2 v2) 3 v3
/-- The number of bytes. -/
def nuL (l : List Nat) : Nat := numB (fun k => l.getD k 0) l.length
/-- What Word tells of an item: a word, an error. -/
def woS (b : Bool) (l : List Nat) : Nat × Nat := if b || decide (l.head? = some 0) || decide (32 < l.length) then (0, 160) else (nuL l, 0)

set_option maxRecDepth 100000 in
set_option maxHeartbeats 2000000 in
theorem read_empty (x : Option Addr) (c : Nat) (w : World) :
    Calls Tryd.prog 42 #[.slice x 0 c] w fun e w' => e = .returned (.tuple #[W 0, .int .i64 0]) ∧ Below w.heap.size w w' := by
  rw [W_zero]
  go_enter Tryd.func42, Tryd.ntmps42
  go_wp2
  refine wp_loop_rounds 1 ?_
  rw [rounds_succ]; go_wp2
  exact bodyPost_ret (v := .tuple #[.agg #[.int .u64 0, .int .u64 0, .int .u64 0, .int .u64 0], .int .i64 0]) (by simp [results, Tryd.results42, go_sem]) rfl ⟨rfl, balloc (balloc (Below.refl _ _) _) _⟩
theorem read_fits (B : Nat) (v : Value) (l : List Nat) (w : World) (hv : Bt B w v l) (hl : l.length ≤ 32) :
    Calls Tryd.prog 42 #[v] w fun e w' => e = .returned (.tuple #[W (nuL l), .int .i64 0]) ∧ Below w.heap.size w w' := by
  obtain ⟨h1, x, c, rfl, h3, h4, h5⟩ := hv
  by_cases h0 : l = []
  · subst h0
    exact read_empty x c w
  · rcases h5 with ⟨_, h, _⟩ | ⟨b, o, rfl, hb, hc⟩
    · exact (h0 h).elim
    · refine read_any b o l.length c (fun k => l.getD k 0) w hl (hb h0).2 (fun k hk => ?_)
      have hk2 : l[k]? = some (l.getD k 0) := by rw [List.getD_eq_getElem?_getD]; simp [hk]
      exact ⟨h1 _ (List.mem_of_getElem? hk2), hc k _ hk2⟩
theorem read_over (B : Nat) (v : Value) (l : List Nat) (w : World) (hv : Bt B w v l) (hl : 32 < l.length) :
    Calls Tryd.prog 42 #[v] w fun e w' => e = .returned (.tuple #[W 0, .int .i64 3]) ∧ Below w.heap.size w w' := by
  obtain ⟨h1, x, c, rfl, h3, h4, h5⟩ := hv
  rcases h5 with ⟨_, h, _⟩ | ⟨b, o, rfl, hb, hc⟩
  · rw [h] at hl; simp at hl
  · exact read_long b o l.length c w hl (by omega)

set_option maxRecDepth 100000 in
set_option maxHeartbeats 4000000 in
/-- Word of an item that may be. -/
theorem word_may (b : Bool) (l : List Nat) (x : Option Addr) (c : Nat) (y : Option Addr) (n d : Nat) (B : Nat) (w : World) (hv : Bt B w (.slice x l.length c) l) (hl : l.length ≤ 100000)
    (hM : ∀ X, Below w.heap.size w X → Calls Tryd.prog 25 #[itW b x l.length c y n d, .int .i64 1] X fun e w' => e = .returned (.bool true) ∧ Below X.heap.size X w') :
    Calls Tryd.prog 20 #[itW b x l.length c y n d] w fun e w' => e = .returned (.tuple #[W (woS b l).1, .int .i64 ((woS b l).2 : Nat)]) ∧ Below w.heap.size w w' := by
  have hI := (Blk.new w 25 #[.bool b, .slice x l.length c, .slice y n d]).alloc (.cells #[.int .u64 0, .int .u64 0, .int .u64 0, .int .u64 0] 47)
  have hR := Blk.newS w (.cells #[.bool b, .slice x l.length c, .slice y n d] 25) 47 #[.int .u64 0, .int .u64 0, .int .u64 0, .int .u64 0]
  have hW := balloc (balloc (Below.refl w.heap.size w) (.cells #[.bool b, .slice x l.length c, .slice y n d] 25)) (.cells #[.int .u64 0, .int .u64 0, .int .u64 0, .int .u64 0] 47)
  have hM1 := Lib.hid (hM _ hW)
  have HB := Lib.hid hv
  obtain ⟨wv, hwv⟩ : ∃ wv, woS b l = wv := ⟨_, rfl⟩
  have HWV := Lib.hid hwv
  rw [hwv]
  have HX := Lib.hid (And.intro hI (And.intro hR hW))
  clear hM hI hR hW hv hwv
  obtain ⟨m, hm⟩ : ∃ m, l.length = m := ⟨_, rfl⟩
  have HM := Lib.hid hm
  rw [hm] at hM1 HX HB hl ⊢
  clear hm
  go_enter Tryd.func20, Tryd.ntmps20
  go_wp2_with fail
  refine hM1.out.mono ?_
  rintro e w1 ⟨rfl, h1⟩
  obtain ⟨hI, hR, hW⟩ := HX.out
  have hI1 := hI.keep h1
  have hR1 := hR.keep h1
  have hW1 := bstep hW h1
  have k0 : w1.cell? ⟨w.heap.size, 0, none⟩ = some (.bool b) := cell_of_row w1 _ 0 _ _ _ hI1
  have k1 : w1.cell? ⟨w.heap.size, 1, none⟩ = some (.slice x m c) := cell_of_row w1 _ 1 _ _ _ hI1
  have H1 := Lib.hid (And.intro hI1 (And.intro hR1 hW1))
  clear hI hR hW hI1 hR1 hW1 h1 hM1 HX
  have hzero : wv = (0, 160) → Ending.returned (.tuple #[.agg #[.int .u64 0, .int .u64 0, .int .u64 0, .int .u64 0], .int .i64 160]) = Ending.returned (.tuple #[W wv.1, .int .i64 (wv.2 : Nat)]) := fun h => by rw [h, show W ((0, 160) : Nat × Nat).1 = _ from W_zero]; rfl
  have HZ := Lib.hid hzero
  clear hzero
  cases b with
  | true =>
    have hr := H1.out.2.1
    have f0 := frozen_of_row w1 _ 0 _ _ hr
    have f1 := frozen_of_row w1 _ 1 _ _ hr
    have f2 := frozen_of_row w1 _ 2 _ _ hr
    have f3 := frozen_of_row w1 _ 3 _ _ hr
    have r0 := cell_of_row w1 _ 0 _ _ _ hr
    have r1 := cell_of_row w1 _ 1 _ _ _ hr
    have r2 := cell_of_row w1 _ 2 _ _ _ hr
    have r3 := cell_of_row w1 _ 3 _ _ _ hr
    have hwv : wv = (0, 160) := by rw [← HWV.out]; rfl
    have HV := Lib.hid (HZ.out hwv)
    clear hr hwv
    go_wp2_with fail
    exact bodyPost_ret (v := .tuple #[.agg #[.int .u64 0, .int .u64 0, .int .u64 0, .int .u64 0], .int .i64 160]) (by simp [results, Tryd.results20, go_sem, r0, r1, r2, r3]) rfl ⟨HV.out, step_world H1.out.2.2 (gset4 w1 (w.heap.size + 1) _ _ _ _) (Nat.le_refl _) (by omega)⟩
  | false =>
    have hz := Blk.new w1 5 #[.int .u8 0]
    have hzb : Bt (w1.heap.size + 1) (w1.alloc (.cells #[.int .u8 0] 5)) (.slice (some ⟨w1.heap.size, 0, none⟩) 1 1) [0] :=
      (Ow.one (base := 0) (x := 0) (by omega) (Nat.zero_le _) hz).bt.mono (by simp)
    have hzW := balloc (Below.refl w1.heap.size w1) (.cells #[.int .u8 0] 5)
    have hB2 := (HB.out.new H1.out.2.2).new hzW
    have hP := prefix0_any B (w1.heap.size + 1) (.slice x m c) l (some ⟨w1.heap.size, 0, none⟩) 1 _ hB2 hzb (by rw [HM.out]; exact hl)
    have hR2 := H1.out.2.1.keep hzW
    have hW2 := bstep H1.out.2.2 hzW
    have hI2 := H1.out.1.keep hzW
    have HP := Lib.hid hP
    have H2 := Lib.hid (And.intro hR2 (And.intro hW2 (And.intro hB2 hI2)))
    have k1 : (w1.alloc (.cells #[.int .u8 0] 5)).cell? ⟨w.heap.size, 1, none⟩ = some (.slice x m c) := cell_of_row _ _ 1 _ _ _ hI2
    clear hz hzb hzW hB2 hP hR2 hW2 H1 hI2
    obtain ⟨q, hq⟩ : ∃ q, decide (l.head? = some 0) = q := ⟨_, rfl⟩
    rw [hq] at HP
    have HQ := Lib.hid hq
    clear hq
    go_wp2_with fail
    refine HP.out.mono ?_
    rintro e w2 ⟨rfl, rfl⟩
    clear HP k0 k1
    have hr := H2.out.1
    have f0 := frozen_of_row _ _ 0 _ _ hr
    have f1 := frozen_of_row _ _ 1 _ _ hr
    have f2 := frozen_of_row _ _ 2 _ _ hr
    have f3 := frozen_of_row _ _ 3 _ _ hr
    have r0 := cell_of_row _ _ 0 _ _ _ hr
    have r1 := cell_of_row _ _ 1 _ _ _ hr
    have r2 := cell_of_row _ _ 2 _ _ _ hr
    have r3 := cell_of_row _ _ 3 _ _ _ hr
    have hI := H2.out.2.2.2
    have i1 := cell_of_row _ _ 1 _ _ _ hI
    obtain ⟨w2, hw2⟩ : ∃ w2, w1.alloc (.cells #[.int .u8 0] 5) = w2 := ⟨_, rfl⟩
    rw [hw2] at f0 f1 f2 f3 r0 r1 r2 r3 i1 H2 ⊢
    clear hw2 hr hI
    cases q with
    | true =>
      have hwv : wv = (0, 160) := by rw [← HWV.out]; unfold woS; rw [HQ.out]; rfl
      have HV := Lib.hid (HZ.out hwv)
      clear hwv i1
      go_wp2_with fail
      exact bodyPost_ret (v := .tuple #[.agg #[.int .u64 0, .int .u64 0, .int .u64 0, .int .u64 0], .int .i64 160]) (by simp [results, Tryd.results20, go_sem, r0, r1, r2, r3]) rfl ⟨HV.out, step_world H2.out.2.1 (gset4 w2 (w.heap.size + 1) _ _ _ _) (Nat.le_refl _) (by omega)⟩
    | false =>
      obtain ⟨hR, hW, hB, hI⟩ := H2.out
      by_cases h32 : m ≤ 32
      · have hwv : wv = (nuL l, 0) := by rw [← HWV.out]; unfold woS; rw [HQ.out, HM.out, show decide (32 < m) = false from decide_eq_false (by omega)]; rfl
        have hC := Lib.hid (read_fits B (.slice x m c) l w2 hB (by rw [HM.out]; exact h32))
        have HE := Lib.hid (And.intro hR hW)
        have HV := Lib.hid hwv
        clear hR hW hB hI hwv H2
        obtain ⟨a, ha⟩ : ∃ a, nuL l = a := ⟨_, rfl⟩
        rw [ha] at HV hC
        clear ha
        go_wp2_with fail
        refine hC.out.mono ?_
        clear r0 r1 r2 r3 f0 f1 f2 f3 i1 hC
        rintro e w3 ⟨rfl, h3⟩
        have hr := (HE.out.1.keep h3).alloc (.cells (Wc a) 47)
        have hW3 := balloc (bstep HE.out.2 h3) (.cells (Wc a) 47)
        have hA := Blk.new w3 47 (Wc a)
        have f0 := frozen_of_row _ _ 0 _ _ hr
        have f1 := frozen_of_row _ _ 1 _ _ hr
        have f2 := frozen_of_row _ _ 2 _ _ hr
        have f3 := frozen_of_row _ _ 3 _ _ hr
        have r0 := cell_of_row _ _ 0 _ _ _ hr
        have r1 := cell_of_row _ _ 1 _ _ _ hr
        have r2 := cell_of_row _ _ 2 _ _ _ hr
        have r3 := cell_of_row _ _ 3 _ _ _ hr
        have a0 := (cell_of_row _ _ 0 _ _ _ hA).trans (wc_get a 0 (by omega))
        have a1 := (cell_of_row _ _ 1 _ _ _ hA).trans (wc_get a 1 (by omega))
        have a2 := (cell_of_row _ _ 2 _ _ _ hA).trans (wc_get a 2 (by omega))
        have a3 := (cell_of_row _ _ 3 _ _ _ hA).trans (wc_get a 3 (by omega))
        have HW3 := Lib.hid hW3
        clear hr hA hW3 h3 HE
        go_wp2_with fail
        exact bodyPost_ret (v := .tuple #[W a, .int .i64 0]) (by simp [results, Tryd.results20, go_sem, r0, r1, r2, r3]) rfl ⟨by rw [HV.out]; rfl, step_world HW3.out (gset4 _ (w.heap.size + 1) _ _ _ _) (Nat.le_refl _) (by omega)⟩
      · have hwv : wv = (0, 160) := by rw [← HWV.out]; unfold woS; rw [HM.out, show decide (32 < m) = true from decide_eq_true (by omega)]; simp
        have hC := Lib.hid (read_over B (.slice x m c) l w2 hB (by rw [HM.out]; omega))
        have HE := Lib.hid (And.intro hR hW)
        have HV := Lib.hid (HZ.out hwv)
        clear hR hW hB hI hwv H2
        go_wp2_with fail
        refine hC.out.mono ?_
        clear r0 r1 r2 r3 f0 f1 f2 f3 i1 hC
        rw [W_zero]
        rintro e w3 ⟨rfl, h3⟩
        have hr := (HE.out.1.keep h3).alloc (.cells #[.int .u64 0, .int .u64 0, .int .u64 0, .int .u64 0] 47)
        have hW3 := balloc (bstep HE.out.2 h3) (.cells #[.int .u64 0, .int .u64 0, .int .u64 0, .int .u64 0] 47)
        have f0 := frozen_of_row _ _ 0 _ _ hr
        have f1 := frozen_of_row _ _ 1 _ _ hr
        have f2 := frozen_of_row _ _ 2 _ _ hr
        have f3 := frozen_of_row _ _ 3 _ _ hr
        have r0 := cell_of_row _ _ 0 _ _ _ hr
        have r1 := cell_of_row _ _ 1 _ _ _ hr
        have r2 := cell_of_row _ _ 2 _ _ _ hr
        have r3 := cell_of_row _ _ 3 _ _ _ hr
        have HW3 := Lib.hid hW3
        clear hr hW3 h3 HE
        go_wp2_with fail
        exact bodyPost_ret (v := .tuple #[.agg #[.int .u64 0, .int .u64 0, .int .u64 0, .int .u64 0], .int .i64 160]) (by simp [results, Tryd.results20, go_sem, r0, r1, r2, r3]) rfl ⟨HV.out, step_world HW3.out (gset4 _ (w.heap.size + 1) _ _ _ _) (Nat.le_refl _) (by omega)⟩

set_option maxRecDepth 100000 in
set_option maxHeartbeats 4000000 in
/-- Word of an item that may not be. -/
theorem word_not (v : Value) (hvv : ∃ b x m c y n d, v = itW b x m c y n d) (w : World)
    (hM : ∀ X, Below w.heap.size w X → Calls Tryd.prog 25 #[v, .int .i64 1] X fun e w' => e = .returned (.bool false) ∧ Below X.heap.size X w') :
    Calls Tryd.prog 20 #[v] w fun e w' => e = .returned (.tuple #[W 0, .int .i64 2]) ∧ Below w.heap.size w w' := by
  obtain ⟨b, x, m, c, y, n, d, rfl⟩ := hvv
  have hR := Blk.newS w (.cells #[.bool b, .slice x m c, .slice y n d] 25) 47 #[.int .u64 0, .int .u64 0, .int .u64 0, .int .u64 0]
  have hW := balloc (balloc (Below.refl w.heap.size w) (.cells #[.bool b, .slice x m c, .slice y n d] 25)) (.cells #[.int .u64 0, .int .u64 0, .int .u64 0, .int .u64 0] 47)
  have hM1 := Lib.hid (hM _ hW)
  have HX := Lib.hid (And.intro hR hW)
  clear hM hR hW
  rw [W_zero]
  go_enter Tryd.func20, Tryd.ntmps20
  go_wp2_with fail
  refine hM1.out.mono ?_
  rintro e w1 ⟨rfl, h1⟩
  have hr := HX.out.1.keep h1
  have H1 := Lib.hid (bstep HX.out.2 h1)
  have f0 := frozen_of_row _ _ 0 _ _ hr
  have f1 := frozen_of_row _ _ 1 _ _ hr
  have f2 := frozen_of_row _ _ 2 _ _ hr
  have f3 := frozen_of_row _ _ 3 _ _ hr
  have r0 := cell_of_row _ _ 0 _ _ _ hr
  have r1 := cell_of_row _ _ 1 _ _ _ hr
  have r2 := cell_of_row _ _ 2 _ _ _ hr
  have r3 := cell_of_row _ _ 3 _ _ _ hr
  clear HX h1 hr hM1
  go_wp2_with fail
  exact bodyPost_ret (v := .tuple #[.agg #[.int .u64 0, .int .u64 0, .int .u64 0, .int .u64 0], .int .i64 2]) (by simp [results, Tryd.results20, go_sem, r0, r1, r2, r3]) rfl ⟨rfl, step_world H1.out (gset4 _ (w.heap.size + 1) _ _ _ _) (Nat.le_refl _) (by omega)⟩
/-- What Word tells of any item. -/
def woT : It → Nat × Nat
  | .mk b l ts => if rtB 8 (.mk b l ts) then woS b l else (0, 2)
theorem word_item (t : It) (v : Value) (B : Nat) (w : World) (hB : B ≤ w.heap.size) (hv : ItA B w t v) (hl : ∀ b l ts, t = .mk b l ts → l.length ≤ 100000) :
    Calls Tryd.prog 20 #[v] w fun e w' => e = .returned (.tuple #[W (woT t).1, .int .i64 ((woT t).2 : Nat)]) ∧ Below w.heap.size w w' := by
  have hM : ∀ X, Below w.heap.size w X → Calls Tryd.prog 25 #[v, .int .i64 1] X fun e w' => e = .returned (.bool (rtB 8 t)) ∧ Below X.heap.size X w' := fun X hX =>
    mayBe_any 8 (Nat.le_refl _) t v B X (Nat.le_trans hB hX.size) (hv.new hX)
  cases hr : rtB 8 t with
  | false =>
    rw [hr] at hM
    have e : woT t = (0, 2) := by
      cases t with
      | mk b l ts =>
        show (if rtB 8 (.mk b l ts) then woS b l else (0, 2)) = _
        rw [hr]; rfl
    rw [e]
    exact word_not v hv.is w hM
  | true =>
    rw [hr] at hM
    cases hv with
    | mk b l ts v1 iv vs h1 h2 hlv hN hs =>
      have e : woT (.mk b l ts) = woS b l := by
        show (if rtB 8 (.mk b l ts) then woS b l else (0, 2)) = _
        rw [hr]; rfl
      rw [e]
      obtain ⟨_, x, c, rfl, _⟩ := id h1
      obtain ⟨y, d, rfl, _⟩ := h2
      exact word_may b l x c y _ d B w h1 (hl b l ts rfl) hM
end Go.Proofs.YtjmfnafbjfceoaaDoor

/- item: Clone; the reader's length. -/
namespace Go.Proofs.YtjmfnafbjfceoaaDoor
open Go.RowKit Go.Shelf
attribute [local irreducible] lb wdG byA byC heL
attribute [local go_sem] nil_nil some_nil
set_option maxRecDepth 100000 in
set_option maxHeartbeats 2000000 in
theorem clone_ow (B : Nat) (v : Value) (l : List Nat) (w : World) (hv : Bt B w v l) (hl : l.length ≤ 100000) :
    Calls Tryd.prog 72 #[v] w fun e w' => ∃ x m c, e = .returned (.slice x m c) ∧ Ow w' w.heap.size (.slice x m c) l ∧ Below w.heap.size w w' := by
  obtain ⟨h1, x, c, rfl, h3, h4, h5⟩ := id hv
  rcases h5 with ⟨rfl, rfl, rfl⟩ | ⟨b, o, rfl, hb, hc⟩
  · clear hv h1 h3 h4
    go_enter Tryd.func72, Tryd.ntmps72
    go_wp2_with fail
    go_ret
    exact ⟨_, _, _, rfl, Ow.nil _ _, Below.refl _ _⟩
  · have hO : Ow (w.alloc (.cells #[] 5)) w.heap.size (.slice (some ⟨w.heap.size, 0, none⟩) 0 0) [] := ⟨by simp, World.ownsRow_made w #[] 0 (Nat.le_refl _) (by unfold maxLen; omega) (by rfl)⟩
    have hW := balloc (Below.refl w.heap.size w) (.cells #[] 5)
    have H := Lib.hid (And.intro hO (And.intro (hv.new hW) hW))
    clear hO hW hc h1 hb
    obtain ⟨m, hm⟩ : ∃ m, l.length = m := ⟨_, rfl⟩
    have HM := Lib.hid hm
    rw [hm] at H hl h3 ⊢
    clear hm hv
    go_enter Tryd.func72, Tryd.ntmps72
    go_wp2_with (first
      | (at_builtin; refine wpList_app rfl _ _ rfl w.heap.size [] H.out.1 B l H.out.2.1 ?c1 ?c2 ?_)
      | fail)
    case c1 => have := HM.out; simp; omega
    case c2 => simp
    intro y c3 w3 hO3 hg3
    have hB3 := H.out.2.2.grown hg3 (by simp) (fun r e => by cases e; exact Nat.le_refl _)
    have HE := Lib.hid (And.intro hO3 hB3)
    clear hO3 hB3 hg3
    rw [HM.out] at HE ⊢
    go_wp2_with fail
    go_ret
    exact ⟨_, _, _, rfl, HE.out⟩

/-- What a head's number says: how many bytes there are, and what is behind. -/
def leS (s : Nat) (r : List Nat) : Option (Nat × List Nat) :=
  if s ≤ 55 then some (s, r) else if r.length < s - 55 then none else if (woS false (r.take (s - 55))).2 = 0 ∧ 55 < nuL (r.take (s - 55)) then some (nuL (r.take (s - 55)), r.drop (s - 55)) else none
/-- The reader's box. -/
def RB (w : World) (R : Nat) (v : Value) (d : Int) (M : Nat) : Prop := Blk w R 68 #[v, .int .i64 d, .map (some M)]
theorem nu_lt (l : List Nat) (h : ∀ x ∈ l, x < 256) (hl : l.length ≤ 8) : nuL l < B64 := by
  have e : ∀ n, n ≤ l.length → numB (fun k => l.getD k 0) n < 256 ^ n := by
    intro n
    induction n with
    | zero => intro _; simp [numB]
    | succ n ih =>
      intro hn
      have h1 := ih (by omega)
      have h2 : l.getD n 0 < 256 := by
        rw [List.getD_eq_getElem?_getD, List.getElem?_eq_getElem (by omega)]
        exact h _ (List.getElem_mem _)
      show numB (fun k => l.getD k 0) n * 256 + l.getD n 0 < _
      rw [Nat.pow_succ]; omega
  refine Nat.lt_of_lt_of_le (e _ (Nat.le_refl _)) ?_
  calc 256 ^ l.length ≤ 256 ^ 8 := Nat.pow_le_pow_right (by decide) hl
    _ = B64 := by unfold B64; decide
theorem sm_of (a : Nat) (h : a < B64) : smV a = (a : Int) := by
  have h1 : ∀ k, 1 ≤ k → lb a k = 0 := fun k hk => by
    unfold lb
    have : a / B64 ^ k = 0 := Nat.div_eq_of_lt (Nat.lt_of_lt_of_le h (by calc B64 = B64 ^ 1 := by rw [Nat.pow_one]
      _ ≤ B64 ^ k := Nat.pow_le_pow_right (by unfold B64; decide) hk))
    rw [this]; rfl
  unfold smV
  rw [smB_true (h1 1 (by omega)) (h1 2 (by omega)) (h1 3 (by omega))]
  show lb a 0 = _
  unfold lb
  rw [Nat.pow_zero, Nat.div_one, Nat.mod_eq_of_lt h]
end Go.Proofs.YtjmfnafbjfceoaaDoor

/- item: the reader's length. -/
namespace Go.Proofs.YtjmfnafbjfceoaaDoor
open Go.RowKit Go.Shelf
attribute [local irreducible] lb wdG byA byC heL nuL
theorem RB.kept {w X : World} {R : Nat} {v : Value} {d : Int} {M : Nat} {row : Option Nat} (h : RB w R v d M) (hg : w.grownBy X row) (hne : some R ≠ row) : RB X R v d M := Blk.kept h hg hne
theorem RB.keep {w X : World} {R : Nat} {v : Value} {d : Int} {M : Nat} (h : RB w R v d M) (k : Below w.heap.size w X) : RB X R v d M := Blk.keep h k
theorem Bt.far {B : Nat} {X Y : World} {v : Value} {l : List Nat} {R : Nat} (h : Bt B X v l) (hg : X.grownBy Y (some R)) (hR : B ≤ R) : Bt B Y v l := h.kept hg.size fun b hb hx => hg.block b hx (fun e => by injection e; omega)
theorem grown_then {w X Y : World} {R : Nat} (h : w.grownBy X (some R)) (k : Below X.heap.size X Y) : w.grownBy Y (some R) :=
  ⟨k.os.trans h.os, k.tape.trans h.tape, k.output.trans h.output, Nat.le_trans h.size k.size, fun i hi hne => (k.block i (Nat.lt_of_lt_of_le hi h.size)).trans (h.block i hi hne)⟩
theorem grown_then' {w X Y : World} {R : Nat} (h : w.grownBy X (some R)) (k : X.grownBy Y (some R)) : w.grownBy Y (some R) :=
  ⟨k.os.trans h.os, k.tape.trans h.tape, k.output.trans h.output, Nat.le_trans h.size k.size, fun i hi hne => (k.block i (Nat.lt_of_lt_of_le hi h.size) hne).trans (h.block i hi hne)⟩
theorem grown_of {w X : World} (R : Nat) (k : Below w.heap.size w X) : w.grownBy X (some R) := ⟨k.os, k.tape, k.output, k.size, fun i hi _ => k.block i hi⟩

/-- take, where there is enough: what is told, what is left. -/
theorem take_bt (B R : Nat) (v : Value) (l : List Nat) (n : Nat) (d : Int) (M : Nat) (w : World) (hR : RB w R v d M) (hv : Bt B w v l) (hB : B ≤ R) (hn : n ≤ l.length) :
    Calls Tryd.prog 56 #[.pointer (some ⟨R, 0, none⟩), .int .u64 n] w fun e w' => ∃ x c v2, e = .returned (.slice x n c) ∧ Bt B w' (.slice x n c) (l.take n) ∧ RB w' R v2 d M ∧ Bt B w' v2 (l.drop n) ∧ w.grownBy w' (some R) := by
  obtain ⟨_, x, c, rfl, hc, hc2, _⟩ := id hv
  refine (take_fits R x l.length n c hn hc hc2 w (cell_of_row w _ 0 _ _ _ hR) (frozen_of_row w _ 0 _ _ hR)).mono ?_
  rintro e w' ⟨rfl, rfl⟩
  have hg := grown_set' (grown_refl w R) 0 (.slice (if c = n then x else x.map (·.add n)) (l.length - n) (c - n))
  exact ⟨x, c, _, rfl, (hv.take n hn).far hg hB, heap_setCell_same _ R 0 _ _ _ hR, (hv.drop n hn).far hg hB, hg⟩
theorem take_not (R : Nat) (B : Nat) (v : Value) (l : List Nat) (n : Nat) (d : Int) (M : Nat) (w : World) (hR : RB w R v d M) (hv : Bt B w v l) (hn : l.length < n) :
    Calls Tryd.prog 56 #[.pointer (some ⟨R, 0, none⟩), .int .u64 n] w fun e w' => e = .panicked [{ v := .iface 28 (.int .i64 160), recovered := false }] ∧ w = w' := by
  obtain ⟨_, x, c, rfl, hc, hc2, _⟩ := id hv
  exact take_over R x l.length n c hn (by omega) w (cell_of_row w _ 0 _ _ _ hR)

/-- What length comes to. -/
def LeP (B R : Nat) (d : Int) (M : Nat) (w : World) (o : Option (Nat × List Nat)) (e : Ending) (w' : World) : Prop := w.grownBy w' (some R) ∧ (match o with
      | some (n, r2) => e = .returned (.int .u64 n) ∧ ∃ v2, RB w' R v2 d M ∧ Bt B w' v2 r2
      | none => e = .panicked [{ v := .iface 28 (.int .i64 160), recovered := false }])
set_option maxRecDepth 100000 in
set_option maxHeartbeats 4000000 in
theorem length_any (B R s : Nat) (v : Value) (l : List Nat) (d : Int) (M : Nat) (w : World) (hs : s ≤ 63) (hR : RB w R v d M) (hv : Bt B w v l) (hB : B ≤ R) :
    Calls Tryd.prog 58 #[.pointer (some ⟨R, 0, none⟩), .int .u8 s] w fun e w' => LeP B R d M w (leS s l) e w' := by
  by_cases h55 : s ≤ 55
  · have g1 : (s : Int) ≤ 55 := by omega
    have w1 : IntKind.u64.wrap (s : Int) = (s : Int) := by rw [IntKind.wrap_u64]; omega
    have hle : leS s l = some (s, l) := by unfold leS; rw [if_pos h55]
    rw [hle]
    go_enter Tryd.func58, Tryd.ntmps58
    have HX := Lib.hid (And.intro hR hv)
    clear hle hR hv h55
    go_wp2_with fail
    go_ret
    exact ⟨grown_refl w R, rfl, v, HX.out⟩
  · have g1 : ¬ (s : Int) ≤ 55 := by omega
    have w1 : IntKind.u8.wrap ((s : Int) - 55) = ((s - 55 : Nat) : Int) := by rw [IntKind.wrap_u8]; omega
    have w2 : IntKind.u64.wrap ((s - 55 : Nat) : Int) = ((s - 55 : Nat) : Int) := by rw [IntKind.wrap_u64]; omega
    obtain ⟨k, hk⟩ : ∃ k, s - 55 = k := ⟨_, rfl⟩
    rw [hk] at w1 w2
    by_cases hlk : l.length < k
    · have hle : leS s l = none := by unfold leS; rw [if_neg h55, if_pos (by omega)]
      rw [hle]
      have hT := Lib.hid (take_not R B v l k d M w hR hv hlk)
      clear hle hk hR hv
      go_enter Tryd.func58, Tryd.ntmps58
      go_wp2_with fail
      refine hT.out.mono ?_
      rintro e w3 ⟨rfl, rfl⟩
      exact ⟨rfl, grown_refl w R, rfl⟩
    · have hT := Lib.hid (take_bt B R v l k d M w hR hv hB (by omega))
      have hle : leS s l = if (woS false (l.take k)).2 = 0 ∧ 55 < nuL (l.take k) then some (nuL (l.take k), l.drop k) else none := by unfold leS; rw [if_neg h55, hk, if_neg hlk]
      have HLE := Lib.hid hle
      have hk8 : k ≤ 8 := by omega
      clear hk hR hv
      go_enter Tryd.func58, Tryd.ntmps58
      clear hle
      go_wp2_with fail
      refine hT.out.mono ?_
      rintro e w3 ⟨x, c, v2, rfl, hb, hR3, hv3, hg3⟩
      have hlen : (l.take k).length = k := by rw [List.length_take]; omega
      have hb8 := hb.1
      have hnu := nu_lt (l.take k) hb8 (by omega)
      obtain ⟨tk, htk⟩ : ∃ tk, l.take k = tk := ⟨_, rfl⟩
      obtain ⟨dk, hdk⟩ : ∃ dk, l.drop k = dk := ⟨_, rfl⟩
      rw [htk] at hb HLE hlen hnu
      rw [hdk] at hv3 HLE
      have hW := Lib.hid (word_may false tk x c none 0 0 B w3 (by rw [hlen]; exact hb) (by omega) (fun X _ => mayBe_bytes _ _ _ _))
      rw [hlen] at hW
      have H3 := Lib.hid (And.intro hR3 (And.intro hv3 (And.intro hg3 hnu)))
      clear hT hb hR3 hv3 hg3 hnu hb8 htk hdk hlen
      obtain ⟨wv, hwv⟩ : ∃ wv, woS false tk = wv := ⟨_, rfl⟩
      rw [hwv] at hW HLE
      have HWV := Lib.hid hwv
      clear hwv
      obtain ⟨a, no⟩ := wv
      go_wp2_with fail
      refine hW.out.mono ?_
      rintro e w4 ⟨rfl, h4⟩
      have hA := Blk.new w4 47 (Wc a)
      have hR4 := ((H3.out.1.keep h4).keep (balloc (Below.refl _ _) (.cells (Wc a) 47)))
      have hv4 := ((H3.out.2.1.new h4).new (balloc (Below.refl _ _) (.cells (Wc a) 47)))
      have hg4 := grown_then (grown_then H3.out.2.2.1 h4) (balloc (Below.refl _ _) (.cells (Wc a) 47))
      have a0 := (cell_of_row _ _ 0 _ _ _ hA).trans (wc_get a 0 (by omega))
      have a1 := (cell_of_row _ _ 1 _ _ _ hA).trans (wc_get a 1 (by omega))
      have a2 := (cell_of_row _ _ 2 _ _ _ hA).trans (wc_get a 2 (by omega))
      have a3 := (cell_of_row _ _ 3 _ _ _ hA).trans (wc_get a 3 (by omega))
      have H4 := Lib.hid (And.intro hR4 (And.intro hv4 (And.intro hg4 H3.out.2.2.2)))
      clear hW h4 hA hR4 hv4 hg4 H3
      go_wp2_with fail
      have hcase : (no = 160 ∧ a = 0) ∨ (no = 0 ∧ a = nuL tk) := by
        have h := HWV.out
        unfold woS at h
        split at h
        · injection h with h1 h2; exact .inl ⟨h2.symm, h1.symm⟩
        · injection h with h1 h2; exact .inr ⟨h2.symm, h1.symm⟩
      have haB : a < B64 := by
        rcases hcase with ⟨_, h⟩ | ⟨_, h⟩
        · rw [h]; unfold B64; omega
        · rw [h]; exact H4.out.2.2.2
      have hS := small_any a (w4.alloc (.cells (Wc a) 47))
      rw [sm_of a haB] at hS
      obtain ⟨sb, hsb⟩ : ∃ sb, smB a = sb := ⟨_, rfl⟩
      rw [hsb] at hS
      have HS := Lib.hid hS
      have HC := Lib.hid hcase
      clear hS hsb a0 a1 a2 a3 hcase
      refine HS.out.mono ?_
      rintro e w5 ⟨rfl, h5⟩
      have H5 := Lib.hid (And.intro (H4.out.1.keep h5) (And.intro (H4.out.2.1.new h5) (grown_then H4.out.2.2.1 h5)))
      clear H4 HS h5
      rcases HC.out with ⟨h1, h2⟩ | ⟨h1, h2⟩
      · have hL : leS s l = none := by rw [HLE.out, if_neg (by omega)]
        have HL := Lib.hid hL
        subst h1
        clear hL h2 HC HLE HWV
        go_wp2_with fail
        exact ⟨rfl, H5.out.2.2, by rw [HL.out]⟩
      · by_cases h55n : a ≤ 55
        · have hL : leS s l = none := by rw [HLE.out, if_neg (by omega)]
          have HL := Lib.hid hL
          have g2 : (a : Int) ≤ 55 := by omega
          subst h1
          clear hL h2 HC HLE HWV
          go_wp2_with fail
          exact ⟨rfl, H5.out.2.2, by rw [HL.out]⟩
        · have hL : leS s l = some (a, dk) := by rw [HLE.out, if_pos (by omega), h2]
          have HL := Lib.hid hL
          have g2 : ¬ (a : Int) ≤ 55 := by omega
          subst h1
          clear hL h2 HC HLE HWV
          go_wp2_with fail
          go_ret
          refine ⟨H5.out.2.2, ?_⟩
          rw [HL.out]
          exact ⟨rfl, v2, H5.out.1, H5.out.2.1⟩
end Go.Proofs.YtjmfnafbjfceoaaDoor

