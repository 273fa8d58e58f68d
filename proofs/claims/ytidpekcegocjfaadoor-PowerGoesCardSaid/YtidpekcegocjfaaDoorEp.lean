/- power's law: PowerGoes: the walk. -/
import Derived.Test.YtidpekcegocjfaaDoorEl
import Derived.Test.YtidpekcegocjfaaDoorEn
import Derived.Lib.MinMax
import Derived.Deep.CutRange
import Derived.Deep.DeepCutAuto
namespace Go.Proofs.YtidpekcegocjfaaDoor
open Go.RowKit Go.Shelf
attribute [local go_sem] ix0 ix1 ix2 ix3
attribute [local go_sem] Oper.semAt_some
attribute [local irreducible] lb pwN wdN sqF
theorem neqWp (x y : Nat) (w : World) : (binOp .neq 24 (W x) (W y)).run Tryd.prog w = .ok (.bool (!(x % MM == y % MM))) w := by
  obtain ⟨i, hi⟩ := Option.isSome_iff_exists.1 info_u64
  have h := run_neq_ints (show Tryd.prog.underlying 24 = some (.array 4 22) by kernel_rfl) (k := .u64) (by kernel_rfl) hi (by kernel_rfl) (Wc x) (Wc y) (lb x) (lb y)
    (fun j hj => by match j, hj with | 0, _ | 1, _ | 2, _ | 3, _ => exact ⟨rfl, rfl⟩) w
  rw [h]
  refine congrArg (fun c => Result.ok (Value.bool (!c)) w) ?_
  rw [Bool.eq_iff_iff]
  simp only [List.all_eq_true, List.mem_range, beq_iff_eq]
  rw [← lb_eq_iff]
  exact ⟨fun h => ⟨h 0 (by omega), h 1 (by omega), h 2 (by omega), h 3 (by omega)⟩, fun h j hj => by match j, hj with | 0, _ => exact h.1 | 1, _ => exact h.2.1 | 2, _ => exact h.2.2.1 | 3, _ => exact h.2.2.2⟩
theorem join_rounds {F : Nat → World → Prop} {FR : Nat → Nat → Value → Value → Value → Act} {WX : World → World} {G : Act → World → Prop} {R : Prop}
    (f : Kept1 (∀ D X v1 v2 v3, F D X → G (FR D X.heap.size v1 v2 v3) (WX X)) → R) (t : ∀ D X v1 v2 v3, F D X → G (FR D X.heap.size v1 v2 v3) (WX X)) : R := f ⟨t⟩
theorem many_done (N : Nat) (n : Int) (h : N = 0 ∨ (N : Int) < n) : min (N : Int) (max 1 n) = N := by omega
theorem many_left (N k : Nat) (n : Int) (h1 : k ≤ N) (h0 : 0 < k) (h2 : n ≤ k) (h3 : k = 1 ∨ (k : Int) - 1 < n) : min (N : Int) (max 1 n) = k := by omega
/-- What stands in the law's boxes all the while: the word, the two numbers, the answer, what the sequence holds, how many there are. -/
def PF (a : Nat) (n0 n1 : Int) (w X : World) : Prop :=
  (((((Blk X w.heap.size 24 (Wc a) ∧ Blk X (w.heap.size + 1) 29 #[.int .i64 n0, .int .i64 n1]) ∧ Blk X (w.heap.size + 2) 4 #[.bool false]) ∧ Blk X (w.heap.size + 3) 24 (Wc a)) ∧ Blk X (w.heap.size + 4) 3 #[.int .i64 n0]) ∧ Blk X (w.heap.size + 5) 3 #[.int .i64 (pwK n0 : Nat)]) ∧ Below w.heap.size w X
theorem PF.abide {β : Type} {a : Nat} {n0 n1 : Int} {w X0 : World} {q : Nat} (h : PF a n0 n1 w X0) (hB : X0.heap.size ≤ q) : Abide q (fun (_ : β) X => PF a n0 n1 w X) := by
  obtain ⟨⟨⟨⟨⟨⟨h1, h2⟩, h3⟩, h4⟩, h5⟩, h6⟩, h7⟩ := h
  exact ((((((Abide.blk (Nat.lt_of_lt_of_le h1.lt hB) _ (fun _ => _)).and (Abide.blk (Nat.lt_of_lt_of_le h2.lt hB) _ (fun _ => _))).and (Abide.blk (Nat.lt_of_lt_of_le h3.lt hB) _ (fun _ => _))).and (Abide.blk (Nat.lt_of_lt_of_le h4.lt hB) _ (fun _ => _))).and (Abide.blk (Nat.lt_of_lt_of_le h5.lt hB) _ (fun _ => _))).and (Abide.blk (Nat.lt_of_lt_of_le h6.lt hB) _ (fun _ => _))).and (Abide.below (Nat.le_refl _) (Nat.le_trans h7.size hB))
theorem PF.alloc {a : Nat} {n0 n1 : Int} {w X : World} (h : PF a n0 n1 w X) (o : Obj) : PF a n0 n1 w (X.alloc o) := (PF.abide (β := Unit) h (Nat.le_refl _)).alloc (s := ()) o h
theorem PF.new {a : Nat} {n0 n1 : Int} {w X Y : World} (h : PF a n0 n1 w X) (k : Below X.heap.size X Y) : PF a n0 n1 w Y := (PF.abide (β := Unit) h (Nat.le_refl _)).new (s := ()) h k
/-- What the last region needs: the word, the answer's box, two marks. -/
def GS (a D D2 : Nat) (w X : World) : Prop := (((Blk X w.heap.size 24 (Wc a) ∧ ∃ v, Blk X (w.heap.size + 2) 4 #[v]) ∧ X.heap[D]? = some (.deferred (some []))) ∧ X.heap[D2]? = some (.deferred (some []))) ∧ Below w.heap.size w X
theorem GS.new {a D D2 : Nat} {w X Y : World} (h : GS a D D2 w X) (k : Below X.heap.size X Y) : GS a D D2 w Y := by
  obtain ⟨⟨⟨⟨h1, v, h2⟩, h3⟩, h4⟩, h5⟩ := h
  exact ⟨⟨⟨⟨h1.keep k, v, h2.keep k⟩, (k.block D (Array.getElem?_eq_some_iff.1 h3).1).trans h3⟩, (k.block D2 (Array.getElem?_eq_some_iff.1 h4).1).trans h4⟩, bstep h5 k⟩
theorem GS.drew {a D D2 : Nat} {w X : World} (h : GS a D D2 w X) : GS a D D2 w X.drew := ⟨h.1, below_drew' h.2⟩
theorem GS.set {a D D2 : Nat} {w X : World} (h : GS a D D2 w X) (hD : w.heap.size + 2 < D) (hD2 : w.heap.size + 2 < D2) (v : Value) : GS a D D2 w (X.setCell ⟨w.heap.size + 2, 0, none⟩ v) := by
  obtain ⟨⟨⟨⟨h1, u, h2⟩, h3⟩, h4⟩, h5⟩ := h
  exact ⟨⟨⟨⟨h1.kept (grownBy_setCell' X (w.heap.size + 2) v) (fun e => by injection e; omega), v, heap_setCell_same X (w.heap.size + 2) 0 _ _ v h2⟩, (Below.heap_setCell X ⟨w.heap.size + 2, 0, none⟩ v D (by simp; omega)).trans h3⟩, (Below.heap_setCell X ⟨w.heap.size + 2, 0, none⟩ v D2 (by simp; omega)).trans h4⟩, h5.setCell (p := ⟨w.heap.size + 2, 0, none⟩) (by simp) v⟩
/-- What a cell holds. -/
def heldAt (X : World) (g : Nat) : Value := (X.cell? ⟨g, 0, none⟩).getD undef
theorem GS.cell {a D D2 : Nat} {w X : World} (h : GS a D D2 w X) : X.cell? ⟨w.heap.size + 2, 0, none⟩ = some (heldAt X (w.heap.size + 2)) := by
  obtain ⟨⟨⟨⟨h1, u, h2⟩, h3⟩, h4⟩, h5⟩ := h
  have h := cell_of_row X _ 0 _ _ _ h2
  unfold heldAt
  rw [h]; rfl
theorem GS.frozen {a D D2 : Nat} {w X : World} (h : GS a D D2 w X) : X.frozen? ⟨w.heap.size + 2, 0, none⟩ = false := by
  obtain ⟨⟨⟨⟨h1, u, h2⟩, h3⟩, h4⟩, h5⟩ := h
  exact frozen_of_row X _ 0 _ _ h2

set_option maxRecDepth 100000 in
set_option maxHeartbeats 4000000 in
theorem goes_walk (a r : Nat) (n0 n1 : Int) (x : Option Addr) (L cap : Nat) (hL : L ≤ 300) (w : World) (hT : TZ w)
    (hS : ∀ X, Below w.heap.size w X → Calls Tryd.prog 14 #[W a, .slice x L cap] X fun e w' => e = .returned (W r) ∧ Below X.heap.size X w')
    (hR : ∀ X, Below w.heap.size w X → Calls Tryd.prog 15 #[W a, .slice x L cap] X fun e w' => e = .returned (W r) ∧ Below X.heap.size X w') :
    Calls Tryd.prog 4 #[W a, .agg #[.int .i64 n0, .int .i64 n1], .slice x L cap] w fun e w' => e = .returned (.bool true) ∧ Below w.heap.size w w' := by
  have hnil : ∀ (p q : Value) w, (binOp .eql 32 (.func (.func 23) #[] #[p, q]) .nilFunc).run Tryd.prog w = .ok (.bool false) w := fun _ _ _ => by kernel_rfl
  have HT := Lib.hid hT
  have HS := Lib.hid hS
  have HR := Lib.hid hR
  have hLi : ¬ ((300 : Int) < (L : Int)) := by omega
  clear hT hS hR
  refine (callsIn_wide (n := 20)).1 ?_
  refine callsIn_of_wp_marks Tryd.func4 rfl trivial ?_ rfl
  simp only [Tryd.ntmps4, List.size_toArray, List.length_cons, List.length_nil, Nat.reduceAdd, Nat.reduceSub, Array.replicate_succ, Array.replicate_zero, List.push_toArray, List.append_toArray, List.nil_append, List.cons_append]
  refine (wpIn_wide (n := 20)).2 ?_
  have k0 : Blk (((w.alloc (.cells (Wc a) 24)).alloc (.cells #[.int .i64 n0, .int .i64 n1] 29)).alloc (.cells #[.bool false] 4)) w.heap.size 24 (Wc a) := ((Blk.new _ _ _).alloc _).alloc _
  have k1 : Blk (((w.alloc (.cells (Wc a) 24)).alloc (.cells #[.int .i64 n0, .int .i64 n1] 29)).alloc (.cells #[.bool false] 4)) (w.heap.size + 1) 29 #[.int .i64 n0, .int .i64 n1] := (Blk.newS w _ _ _).alloc _
  have k2 : Blk (((w.alloc (.cells (Wc a) 24)).alloc (.cells #[.int .i64 n0, .int .i64 n1] 29)).alloc (.cells #[.bool false] 4)) (w.heap.size + 2) 4 #[.bool false] := by
    have h := Blk.newS (w.alloc (.cells (Wc a) 24)) (.cells #[.int .i64 n0, .int .i64 n1] 29) 4 #[.bool false]
    rwa [World.size_alloc] at h
  have hW : Below w.heap.size w (((w.alloc (.cells (Wc a) 24)).alloc (.cells #[.int .i64 n0, .int .i64 n1] 29)).alloc (.cells #[.bool false] 4)) := balloc (balloc (balloc (Below.refl _ _) _) _) _
  have H := Lib.hid (And.intro k0 (And.intro k1 (And.intro k2 hW)))
  clear k0 k1 k2 hW
  go_wp2_with fail
  refine (powers_any a n0 _).mono ?_
  rintro e V ⟨rfl, rfl⟩
  have hAll : min (max 0 n0) 256 = ((pwK n0 : Nat) : Int) := by unfold pwK; omega
  obtain ⟨k0, k1, k2, hW⟩ := H.out
  clear H
  have q0 := (((k0.alloc (.cells (Wc a) 24)).alloc (.cells #[.int .i64 n0] 3)).alloc (.cells #[.int .i64 (pwK n0 : Nat)] 3)).alloc (.cells #[.int .i64 0] 3)
  have q1 := (((k1.alloc (.cells (Wc a) 24)).alloc (.cells #[.int .i64 n0] 3)).alloc (.cells #[.int .i64 (pwK n0 : Nat)] 3)).alloc (.cells #[.int .i64 0] 3)
  have q2 := (((k2.alloc (.cells (Wc a) 24)).alloc (.cells #[.int .i64 n0] 3)).alloc (.cells #[.int .i64 (pwK n0 : Nat)] 3)).alloc (.cells #[.int .i64 0] 3)
  have q3 : Blk (((((((w.alloc (.cells (Wc a) 24)).alloc (.cells #[.int .i64 n0, .int .i64 n1] 29)).alloc (.cells #[.bool false] 4)).alloc (.cells (Wc a) 24)).alloc (.cells #[.int .i64 n0] 3)).alloc (.cells #[.int .i64 (pwK n0 : Nat)] 3)).alloc (.cells #[.int .i64 0] 3)) (w.heap.size + 3) 24 (Wc a) := by
    have h := Blk.new (((w.alloc (.cells (Wc a) 24)).alloc (.cells #[.int .i64 n0, .int .i64 n1] 29)).alloc (.cells #[.bool false] 4)) 24 (Wc a)
    rw [World.size_alloc, World.size_alloc, World.size_alloc] at h
    exact ((h.alloc _).alloc _).alloc _
  have q4 : Blk (((((((w.alloc (.cells (Wc a) 24)).alloc (.cells #[.int .i64 n0, .int .i64 n1] 29)).alloc (.cells #[.bool false] 4)).alloc (.cells (Wc a) 24)).alloc (.cells #[.int .i64 n0] 3)).alloc (.cells #[.int .i64 (pwK n0 : Nat)] 3)).alloc (.cells #[.int .i64 0] 3)) (w.heap.size + 4) 3 #[.int .i64 n0] := by
    have h := Blk.new ((((w.alloc (.cells (Wc a) 24)).alloc (.cells #[.int .i64 n0, .int .i64 n1] 29)).alloc (.cells #[.bool false] 4)).alloc (.cells (Wc a) 24)) 3 #[.int .i64 n0]
    rw [World.size_alloc, World.size_alloc, World.size_alloc, World.size_alloc] at h
    exact (h.alloc _).alloc _
  have q5 : Blk (((((((w.alloc (.cells (Wc a) 24)).alloc (.cells #[.int .i64 n0, .int .i64 n1] 29)).alloc (.cells #[.bool false] 4)).alloc (.cells (Wc a) 24)).alloc (.cells #[.int .i64 n0] 3)).alloc (.cells #[.int .i64 (pwK n0 : Nat)] 3)).alloc (.cells #[.int .i64 0] 3)) (w.heap.size + 5) 3 #[.int .i64 (pwK n0 : Nat)] := by
    have h := Blk.new (((((w.alloc (.cells (Wc a) 24)).alloc (.cells #[.int .i64 n0, .int .i64 n1] 29)).alloc (.cells #[.bool false] 4)).alloc (.cells (Wc a) 24)).alloc (.cells #[.int .i64 n0] 3)) 3 #[.int .i64 (pwK n0 : Nat)]
    rw [World.size_alloc, World.size_alloc, World.size_alloc, World.size_alloc, World.size_alloc] at h
    exact h.alloc _
  have q6 : Blk (((((((w.alloc (.cells (Wc a) 24)).alloc (.cells #[.int .i64 n0, .int .i64 n1] 29)).alloc (.cells #[.bool false] 4)).alloc (.cells (Wc a) 24)).alloc (.cells #[.int .i64 n0] 3)).alloc (.cells #[.int .i64 (pwK n0 : Nat)] 3)).alloc (.cells #[.int .i64 0] 3)) (w.heap.size + 6) 3 #[.int .i64 0] := by
    have h := Blk.new ((((((w.alloc (.cells (Wc a) 24)).alloc (.cells #[.int .i64 n0, .int .i64 n1] 29)).alloc (.cells #[.bool false] 4)).alloc (.cells (Wc a) 24)).alloc (.cells #[.int .i64 n0] 3)).alloc (.cells #[.int .i64 (pwK n0 : Nat)] 3)) 3 #[.int .i64 0]
    rw [World.size_alloc, World.size_alloc, World.size_alloc, World.size_alloc, World.size_alloc, World.size_alloc] at h
    exact h
  have hsf : PF a n0 n1 w (((((((w.alloc (.cells (Wc a) 24)).alloc (.cells #[.int .i64 n0, .int .i64 n1] 29)).alloc (.cells #[.bool false] 4)).alloc (.cells (Wc a) 24)).alloc (.cells #[.int .i64 n0] 3)).alloc (.cells #[.int .i64 (pwK n0 : Nat)] 3)).alloc (.cells #[.int .i64 0] 3)) := ⟨⟨⟨⟨⟨⟨q0, q1⟩, q2⟩, q3⟩, q4⟩, q5⟩, balloc (balloc (balloc (balloc hW _) _) _) _⟩
  have H := Lib.hid (And.intro hsf q6)
  clear q0 q1 q2 q3 q4 q5 q6 hsf k0 k1 k2 hW
  go_wp2_with fail
  obtain ⟨hsf, kT⟩ := H.out
  clear H hnil
  obtain ⟨V0, hV0⟩ : ∃ V0, (((((((w.alloc (.cells (Wc a) 24)).alloc (.cells #[.int .i64 n0, .int .i64 n1] 29)).alloc (.cells #[.bool false] 4)).alloc (.cells (Wc a) 24)).alloc (.cells #[.int .i64 n0] 3)).alloc (.cells #[.int .i64 (pwK n0 : Nat)] 3)).alloc (.cells #[.int .i64 0] 3)) = V0 := ⟨_, rfl⟩
  rw [hV0] at hsf kT ⊢
  clear hV0
  have cT := cell_of_row V0 _ 0 _ _ _ kT
  have H := Lib.hid (And.intro hsf kT)
  clear hsf kT
  refine wp_loop_rounds 3 ?_
  rw [rounds_succ]
  go_wp2_with fail
  refine (rof_any 1 (by decide) _).mono ?_
  rintro e V1 ⟨rfl, h1⟩
  obtain ⟨hsf, kT⟩ := H.out
  clear H cT
  have hsf1 := ((hsf.new h1).alloc (.cells #[.int .i64 0] 3)).alloc (.cells (Wc 1) 24)
  have kT1 := ((kT.keep h1).alloc (.cells #[.int .i64 0] 3)).alloc (.cells (Wc 1) 24)
  have kK1 := (Blk.new V1 3 #[.int .i64 0]).alloc (.cells (Wc 1) 24)
  have kX1 := Blk.newS V1 (.cells #[.int .i64 0] 3) 24 (Wc 1)
  have hgK : w.heap.size + 6 < V1.heap.size := (kT.keep h1).lt
  have hAB : Abide V1.heap.size (fun (_ : Unit) X => PF a n0 n1 w X ∧ Blk X (w.heap.size + 6) 3 #[.int .i64 0]) := (PF.abide (hsf.new h1) (Nat.le_refl _)).and (Abide.blk (kT.keep h1).lt _ (fun _ => #[Value.int .i64 0]))
  have H := Lib.hid (And.intro hsf1 (And.intro kT1 (And.intro kK1 (And.intro kX1 (And.intro hAB hgK)))))
  clear hsf kT h1 hsf1 kT1 kK1 kX1 hgK hAB
  go_wp2_with fail
  obtain ⟨hsf, kT, kK, kX, hAB, hgK⟩ := H.out
  clear H
  obtain ⟨V, hV⟩ : ∃ V, ((V1.alloc (.cells #[.int .i64 0] 3)).alloc (.cells (Wc 1) 24)) = V := ⟨_, rfl⟩
  rw [hV] at hsf kT kK kX ⊢
  clear hV
  generalize V1.heap.size = gK at kK kX hAB hgK ⊢
  have HV := Lib.hid (And.intro hsf (And.intro kT (And.intro kK (And.intro kX (And.intro hAB hgK)))))
  clear hsf kT kK kX hAB hgK
  refine join_rounds (G := ?G) (F := (fun D X => (PF a n0 n1 w X ∧ Blk X (w.heap.size + 6) 3 #[.int .i64 0]) ∧ V.heap.size ≤ D ∧ X.heap[D]? = some (.deferred (some [])))) (FR := fun D q v1 v2 v3 => { tmps := #[W a, Value.agg #[Value.int IntKind.i64 n0, Value.int IntKind.i64 n1], Value.slice x L cap, Value.pointer (some { block := w.heap.size, off := 0 }), Value.pointer (some { block := w.heap.size + 1, off := 0 }), undef, Value.pointer (some { block := w.heap.size + 1 + 1, off := 0 }), Value.func (Fn.func 23) #[] #[Value.pointer (some { block := w.heap.size + 1 + 1 + 1, off := 0 }), Value.pointer (some { block := w.heap.size + 1 + 1 + 1 + 1, off := 0 })], Value.pointer (some { block := w.heap.size + 1 + 1 + 1 + 1 + 1, off := 0 }), Value.pointer (some { block := q, off := 0 }), Value.pointer (some { block := gK, off := 0 }), Value.pointer (some { block := gK + 1, off := 0 }), undef, undef, Value.slice x L cap, Value.int IntKind.i64 (L : Nat), Value.bool false, undef, W a, Value.pointer (some { block := w.heap.size + 1, off := 0 }), Value.int IntKind.i64 n0, Value.func (Fn.func 23) #[] #[Value.pointer (some { block := w.heap.size + 1 + 1 + 1, off := 0 }), Value.pointer (some { block := w.heap.size + 1 + 1 + 1 + 1, off := 0 })], Value.func (Fn.func 23) #[] #[Value.pointer (some { block := w.heap.size + 1 + 1 + 1, off := 0 }), Value.pointer (some { block := w.heap.size + 1 + 1 + 1 + 1, off := 0 })], Value.bool false, Value.pointer (some { block := w.heap.size + 1, off := 0 }), Value.int IntKind.i64 n0, Value.int IntKind.i64 (max 0 n0), Value.int IntKind.i64 (pwK n0 : Nat), Value.int IntKind.i64 0, Value.bool true, Value.int IntKind.i64 0, Value.int IntKind.i64 1, W 1, Value.func (Fn.func 23) #[] #[Value.pointer (some { block := w.heap.size + 1 + 1 + 1, off := 0 }), Value.pointer (some { block := w.heap.size + 1 + 1 + 1 + 1, off := 0 })], undef, undef, undef, undef, undef, undef, undef, undef, undef, undef, undef, undef, undef, undef, undef, undef, undef, undef, undef, undef, undef, undef, undef, undef, undef, undef, undef, undef, Value.int IntKind.i64 0, Value.bool true, Value.bool true, v1, Value.int IntKind.i64 (pwK n0 : Nat), Value.pointer (some { block := w.heap.size + 1, off := 1 }), Value.int IntKind.i64 n1, Value.int IntKind.i64 (max 1 n1), v2, Value.bool false, Value.bool false, Value.bool false, Value.int IntKind.i64 0, Value.bool false, Value.bool false, undef, undef, undef, Value.bool false, Value.bool false, Value.int IntKind.i64 0, undef, undef, undef, undef, undef, undef, undef, undef, undef, undef], defers := [{ target := Target.collected D, args := #[] }] }) (WX := fun X => X.alloc (.cells #[.int .i64 1] 3)) (fun (keep : Kept1 _) => ?ways) ?rest
  case ways =>
    refine (wpIn_wide (n := 20)).1 ?_
    refine wpIn_rangeW (n := 20) (by omega) (gf := 23) (lb := #[Value.pointer (some { block := w.heap.size + 1 + 1 + 1, off := 0 }), Value.pointer (some { block := w.heap.size + 1 + 1 + 1 + 1, off := 0 })]) rfl (enters_of Tryd.func23 (by kernel_rfl) rfl)
      (powers_seq (20 - 1) w.heap.size (w.heap.size + 3) (w.heap.size + 4) a n0 (by omega) V HV.out.1.2.size HV.out.1.1.1.1.2) (Below.refl _ _) HV.out.1.2.size (fun _ => rfl)
      (fun pre X => (((PF a n0 n1 w X ∧ Blk X (w.heap.size + 6) 3 #[.int .i64 0]) ∧ Blk X gK 3 #[.int .i64 (pre.length : Nat)]) ∧ Blk X (gK + 1) 24 (Wc (a ^ pre.length))) ∧ (pre.length = 0 ∨ (pre.length : Int) < n1))
      (fun c pre X => (((PF a n0 n1 w X ∧ Blk X (w.heap.size + 6) 3 #[.int .i64 0]) ∧ Blk X gK 3 #[.int .i64 (pre.length : Nat)]) ∧ Blk X (gK + 1) 24 (Wc (a ^ pre.length))) ∧ (c = .exit 2 ∧ n1 ≤ pre.length ∧ (pre.length = 1 ∨ (pre.length : Int) - 1 < n1)))
      (((((PF.abide HV.out.1 (Nat.le_refl _)).and (Abide.blk HV.out.2.1.lt _ (fun _ => #[Value.int .i64 0]))).and (Abide.blk HV.out.2.2.1.lt _ (fun pre => #[Value.int .i64 ((List.length pre : Nat) : Int)]))).and (Abide.blk HV.out.2.2.2.1.lt _ (fun pre => Wc (a ^ List.length pre)))).and (fun _ _ _ _ hs _ _ => hs))
      (fun _ => ((((PF.abide HV.out.1 (Nat.le_refl _)).and (Abide.blk HV.out.2.1.lt _ (fun _ => #[Value.int .i64 0]))).and (Abide.blk HV.out.2.2.1.lt _ (fun pre => #[Value.int .i64 ((List.length pre : Nat) : Int)]))).and (Abide.blk HV.out.2.2.2.1.lt _ (fun pre => Wc (a ^ List.length pre)))).and (fun _ _ _ _ hs _ _ => hs))
      (fun pre X h => h.1.1.1.1.1.1.2) ⟨⟨⟨⟨HV.out.1, HV.out.2.1⟩, HV.out.2.2.1⟩, HV.out.2.2.2.1⟩, .inl rfl⟩
      (fun y a' X => ∃ gx, Blk X gx 24 (Wc (a ^ y)) ∧ a' = { tmps := #[W a, Value.agg #[Value.int IntKind.i64 n0, Value.int IntKind.i64 n1], Value.slice x L cap, Value.pointer (some { block := w.heap.size, off := 0 }), Value.pointer (some { block := w.heap.size + 1, off := 0 }), undef, Value.pointer (some { block := w.heap.size + 1 + 1, off := 0 }), Value.func (Fn.func 23) #[] #[Value.pointer (some { block := w.heap.size + 1 + 1 + 1, off := 0 }), Value.pointer (some { block := w.heap.size + 1 + 1 + 1 + 1, off := 0 })], Value.pointer (some { block := w.heap.size + 1 + 1 + 1 + 1 + 1, off := 0 }), Value.pointer (some { block := w.heap.size + 1 + 1 + 1 + 1 + 1 + 1, off := 0 }), Value.pointer (some { block := gK, off := 0 }), Value.pointer (some { block := gK + 1, off := 0 }), Value.int IntKind.i64 (y : Nat), Value.pointer (some { block := gx, off := 0 }), Value.slice x L cap, Value.int IntKind.i64 (L : Nat), Value.bool false, undef, W a, Value.pointer (some { block := w.heap.size + 1, off := 0 }), Value.int IntKind.i64 n0, Value.func (Fn.func 23) #[] #[Value.pointer (some { block := w.heap.size + 1 + 1 + 1, off := 0 }), Value.pointer (some { block := w.heap.size + 1 + 1 + 1 + 1, off := 0 })], Value.func (Fn.func 23) #[] #[Value.pointer (some { block := w.heap.size + 1 + 1 + 1, off := 0 }), Value.pointer (some { block := w.heap.size + 1 + 1 + 1 + 1, off := 0 })], Value.bool false, Value.pointer (some { block := w.heap.size + 1, off := 0 }), Value.int IntKind.i64 n0, Value.int IntKind.i64 (max 0 n0), Value.int IntKind.i64 (pwK n0 : Nat), Value.int IntKind.i64 0, Value.bool true, undef, undef, W 1, Value.func (Fn.func 23) #[] #[Value.pointer (some { block := w.heap.size + 1 + 1 + 1, off := 0 }), Value.pointer (some { block := w.heap.size + 1 + 1 + 1 + 1, off := 0 })], Value.int IntKind.i64 (y : Nat), W (a ^ y), undef, undef, undef, undef, undef, undef, undef, undef, undef, undef, undef, undef, undef, undef, undef, undef, undef, undef, undef, undef, undef, undef, undef, undef, undef, undef, undef, undef, undef, undef, undef, undef, undef, undef, undef, undef, undef, undef, undef, undef, undef, undef, undef, undef, undef, undef, undef, undef, undef, undef, undef, undef, undef, undef, undef, undef, undef], defers := [] })
      (fun y a' _ X Y row hs hg hr => by obtain ⟨gx, h1, h2⟩ := hs; exact ⟨gx, blk_cells h1 hg (fun r e => (hr r e).2), h2⟩)
      ?assign ?body ?done ?stop
    case assign =>
      rintro l2 pre y X K _ hi hK
      have HI := Lib.hid hi
      have HK := Lib.hid hK
      clear hi hK
      gi_wp2
      obtain ⟨⟨⟨⟨h1, h2⟩, h3⟩, h4⟩, h5⟩ := HI.out
      exact HK.out _ _ (Kept.alloc _ _ _) ((Below.refl _ X).alloc h1.2.size _) ⟨⟨⟨⟨h1.alloc _, h2.alloc _⟩, h3.alloc _⟩, h4.alloc _⟩, h5⟩ ⟨X.heap.size, Blk.new X _ _, rfl⟩
    case body =>
      rintro l2 pre y a' X hl2 ⟨hpre, hyK⟩ hlo ⟨⟨⟨⟨hsf, kT⟩, kK⟩, kX⟩, hd⟩ ⟨gx, hx, rfl⟩
      have hlen : pre.length = y := by rw [hpre, List.length_range]
      have hsfX : w.heap.size ≤ X.heap.size := hsf.2.size
      rw [hlen] at kK kX hd
      have cAll := cell_of_row X _ 0 _ _ _ hsf.1.2
      have cN1 := cell_of_row X _ 1 _ _ _ hsf.1.1.1.1.1.2
      have cT := cell_of_row X _ 0 _ _ _ kT
      have cK := cell_of_row X _ 0 _ _ _ kK
      have x0 := (cell_of_row _ _ 0 _ _ _ kX).trans (wc_get (a ^ y) 0 (by omega))
      have x1 := (cell_of_row _ _ 1 _ _ _ kX).trans (wc_get (a ^ y) 1 (by omega))
      have x2 := (cell_of_row _ _ 2 _ _ _ kX).trans (wc_get (a ^ y) 2 (by omega))
      have x3 := (cell_of_row _ _ 3 _ _ _ kX).trans (wc_get (a ^ y) 3 (by omega))
      have y0 := (cell_of_row _ _ 0 _ _ _ hx).trans (wc_get (a ^ y) 0 (by omega))
      have y1 := (cell_of_row _ _ 1 _ _ _ hx).trans (wc_get (a ^ y) 1 (by omega))
      have y2 := (cell_of_row _ _ 2 _ _ _ hx).trans (wc_get (a ^ y) 2 (by omega))
      have y3 := (cell_of_row _ _ 3 _ _ _ hx).trans (wc_get (a ^ y) 3 (by omega))
      have a0 := (cell_of_row _ _ 0 _ _ _ hsf.1.1.1.1.1.1).trans (wc_get a 0 (by omega))
      have a1 := (cell_of_row _ _ 1 _ _ _ hsf.1.1.1.1.1.1).trans (wc_get a 1 (by omega))
      have a2 := (cell_of_row _ _ 2 _ _ _ hsf.1.1.1.1.1.1).trans (wc_get a 2 (by omega))
      have a3 := (cell_of_row _ _ 3 _ _ _ hsf.1.1.1.1.1.1).trans (wc_get a 3 (by omega))
      have hneq : ∀ w, (binOp .neq 24 (W (a ^ y)) (W (a ^ y))).run Tryd.prog w = .ok (.bool false) w := fun w => by rw [neqWp]; simp
      have HP := Lib.hid (Nat.pow_succ a y)
      have HX0 := Lib.hid (And.intro hsf (And.intro kT (And.intro kK (And.intro kX (And.intro hd (And.intro hpre hlen))))))
      clear hsf kT kK kX hd hpre hlen hlo hx
      obtain ⟨e, he⟩ : ∃ e, a ^ y = e := ⟨_, rfl⟩
      rw [he] at HP HX0 x0 x1 x2 x3 y0 y1 y2 y3 hneq ⊢
      clear he
      have hyi : (y : Int) < (pwK n0 : Nat) := by omega
      have hyd : decide (pwK n0 ≤ y) = false := decide_eq_false (by omega)
      gi_wp2_with fail
      refine ⟨trivial, CallsIn.mono (F := Fence.wide.inRound l2) (show CallsIn (Fence.wide.inRound l2) _ _ _ _ _ _ from callsIn_wide.2 (rmul_any e a _)) ?_⟩
      rintro e' Y ⟨rfl, h1⟩
      obtain ⟨hsf, kT, kK, kX, hd, hpre, hlen⟩ := HX0.out
      clear HX0 cAll cN1 cT cK x0 x1 x2 x3 y0 y1 y2 y3 a0 a1 a2 a3 hneq
      have hsfY := hsf.new h1
      have kTY := kT.keep h1
      have kKY := kK.keep h1
      have kXY := kX.keep h1
      have hgK := HV.out.2.2.2.2.2
      have hKV : Kept V.heap.size X Y := Kept.below _ h1
      have hBV : Below w.heap.size X Y := h1.mono hsf.2.size
      clear hsf kT kK kX h1
      have f0 := frozen_of_row _ _ 0 _ _ kXY
      have f1 := frozen_of_row _ _ 1 _ _ kXY
      have f2 := frozen_of_row _ _ 2 _ _ kXY
      have f3 := frozen_of_row _ _ 3 _ _ kXY
      have x0 := (cell_of_row _ _ 0 _ _ _ kXY).trans (wc_get e 0 (by omega))
      have x1 := (cell_of_row _ _ 1 _ _ _ kXY).trans (wc_get e 1 (by omega))
      have x2 := (cell_of_row _ _ 2 _ _ _ kXY).trans (wc_get e 2 (by omega))
      have x3 := (cell_of_row _ _ 3 _ _ _ kXY).trans (wc_get e 3 (by omega))
      have hG := grown_set4 Y (gK + 1) (.int .u64 (lb (e * a) 0)) (.int .u64 (lb (e * a) 1)) (.int .u64 (lb (e * a) 2)) (.int .u64 (lb (e * a) 3))
      have hq2 := HV.out.2.2.2.2.1 () Y ((((Y.setCell ⟨gK + 1, 0, none⟩ (.int .u64 (lb (e * a) 0))).setCell ⟨gK + 1, 1, none⟩ (.int .u64 (lb (e * a) 1))).setCell ⟨gK + 1, 2, none⟩ (.int .u64 (lb (e * a) 2))).setCell ⟨gK + 1, 3, none⟩ (.int .u64 (lb (e * a) 3))) (some (gK + 1)) ⟨hsfY, kTY⟩ hG (fun r e => by cases e; omega)
      have kK2 := kKY.kept hG (fun e => by injection e; omega)
      have kX2 := kXY.set4 (e * a)
      have hlX : gK + 1 < V.heap.size := HV.out.2.2.2.1.lt
      have hK2 := hKV.trans (Kept.grown hG (fun r e => by cases e; exact hlX))
      have hB2 := step_world hBV hG hsfX (by omega)
      have cK2 := cell_of_row _ _ 0 _ _ _ kK2
      have fK2 := frozen_of_row _ _ 0 _ _ kK2
      have hw1 : IntKind.i64.wrap ((y : Int) + 1) = (y : Int) + 1 := IntWalk.i64_in _ (by have : pwK n0 ≤ 256 := by unfold pwK; omega
                                                                                          omega)
      have hG3 := grownBy_setCell' ((((Y.setCell ⟨gK + 1, 0, none⟩ (.int .u64 (lb (e * a) 0))).setCell ⟨gK + 1, 1, none⟩ (.int .u64 (lb (e * a) 1))).setCell ⟨gK + 1, 2, none⟩ (.int .u64 (lb (e * a) 2))).setCell ⟨gK + 1, 3, none⟩ (.int .u64 (lb (e * a) 3))) gK (.int .i64 ((y : Int) + 1))
      have hq3 := HV.out.2.2.2.2.1 () _ _ (some gK) hq2 hG3 (fun r e => by cases e; exact Nat.le_refl _)
      have kK3 := heap_setCell_same ((((Y.setCell ⟨gK + 1, 0, none⟩ (.int .u64 (lb (e * a) 0))).setCell ⟨gK + 1, 1, none⟩ (.int .u64 (lb (e * a) 1))).setCell ⟨gK + 1, 2, none⟩ (.int .u64 (lb (e * a) 2))).setCell ⟨gK + 1, 3, none⟩ (.int .u64 (lb (e * a) 3))) gK 0 _ _ (.int .i64 ((y : Int) + 1)) kK2
      have kX3 := kX2.kept hG3 (fun e => by injection e; omega)
      have hK3 := hK2.trans (Kept.grown hG3 (fun r e => by cases e; omega))
      have hB3 := step_world hB2 hG3 hsfX (by omega)
      have cK3 := cell_of_row _ _ 0 _ _ _ kK3
      have cT3 := cell_of_row _ _ 0 _ _ _ hq3.2
      have cN3 := cell_of_row _ _ 1 _ _ _ hq3.1.1.1.1.1.1.2
      have hl : (((pre ++ [y]).length : Nat) : Int) = (y : Int) + 1 := by simp [hlen]
      have hl2' : (pre ++ [y]).length = y + 1 := by simp [hlen]
      have HX1 := Lib.hid (And.intro hq3 (And.intro kK3 (And.intro kX3 (And.intro hd (And.intro hK3 (And.intro hB3 (And.intro hl hl2')))))))
      clear hsfY kTY kKY kXY hKV hBV hG hq2 kK2 kX2 hK2 hB2 hG3 hq3 kK3 kX3 hK3 hB3 hd hl hl2' hpre hlen hgK hlX
      rename_i K1 hK1
      refine hK1 _ _ ?_
      clear hK1 K1
      by_cases hcn : n1 ≤ (y : Int) + 1
      · have hcb : decide (n1 ≤ (y : Int) + 1) = true := decide_eq_true hcn
        gi_wp2_with fail
        obtain ⟨hq3, kK3, kX3, hd, hK3, hB3, hl, hl2⟩ := HX1.out
        refine ⟨hK3, ⟨⟨hq3, by rw [hl]; exact kK3⟩, by rw [hl2, show a ^ (y + 1) = e * a from HP.out]; exact kX3⟩, rfl, by rw [hl]; exact hcn, ?_⟩
        rcases hd with hd | hd
        · exact .inl (by omega)
        · exact .inr (by rw [hl]; omega)
      · have hcb : decide (n1 ≤ (y : Int) + 1) = false := decide_eq_false hcn
        gi_wp2_with fail
        obtain ⟨hq3, kK3, kX3, hd, hK3, hB3, hl, hl2⟩ := HX1.out
        exact ⟨hK3, hB3, ⟨⟨hq3, by rw [hl]; exact kK3⟩, by rw [hl2, show a ^ (y + 1) = e * a from HP.out]; exact kX3⟩, .inr (by rw [hl]; omega)⟩
    case done =>
      rintro D xs X hD rfl ⟨⟨⟨⟨hsf, kT⟩, kK⟩, kX⟩, hd⟩ hDD
      rw [List.length_range] at kK kX hd
      have hmin := many_done _ n1 hd
      have cAll := cell_of_row X _ 0 _ _ _ hsf.1.2
      have cN1 := cell_of_row X _ 1 _ _ _ hsf.1.1.1.1.1.2
      have cT := cell_of_row X _ 0 _ _ _ kT
      have cK := cell_of_row X _ 0 _ _ _ kK
      have HF := Lib.hid (And.intro (And.intro hsf kT) (And.intro hD hDD))
      clear hsf kT kK kX hDD hD hd
      go_wp2_with fail
      exact keep.1 D X _ _ .nilFunc HF.out
    case stop =>
      rintro D c pre X hD ⟨m, hpre, hm⟩ ⟨⟨⟨⟨hsf, kT⟩, kK⟩, kX⟩, rfl, hn1, hn2⟩ hDD
      have hlen : pre.length = m + 1 := by rw [hpre, List.length_range]
      rw [hlen] at kK hn1 hn2
      have hmin := many_left (pwK n0) (m + 1) n1 (by omega) (by omega) hn1 hn2
      have cAll := cell_of_row X _ 0 _ _ _ hsf.1.2
      have cN1 := cell_of_row X _ 1 _ _ _ hsf.1.1.1.1.1.2
      have cT := cell_of_row X _ 0 _ _ _ kT
      have cK := cell_of_row X _ 0 _ _ _ kK
      have HF := Lib.hid (And.intro (And.intro hsf kT) (And.intro hD hDD))
      clear hsf kT kK kX hDD hD hn1 hn2 hpre hm hlen
      refine (wpIn_wide (n := 20)).2 ?_
      go_wp2_with fail
      exact keep.1 D X _ _ .nilFunc HF.out
  case rest =>
    rintro D X v1 v2 v3 ⟨⟨hsf, kT⟩, hD, hDD⟩
    have hDl : D < X.heap.size := (Array.getElem?_eq_some_iff.1 hDD).1
    have hDD2 : (X.alloc (.cells #[.int .i64 1] 3)).heap[D]? = some (.deferred (some [])) := (Below.heap_alloc X _ D hDl).trans hDD
    have kT2 := Blk.new X 3 #[.int .i64 1]
    have hsf2 := hsf.alloc (.cells #[.int .i64 1] 3)
    have hBX := hsf.2
    have hwV : w.heap.size + 6 < V.heap.size := HV.out.2.1.lt
    have hwD : w.heap.size + 6 < D := Nat.lt_of_lt_of_le hwV hD
    have HWD := Lib.hid hwD
    clear hsf kT hDD HV hwV hwD hD
    obtain ⟨W2, hW2⟩ : ∃ W2, X.alloc (.cells #[.int .i64 1] 3) = W2 := ⟨_, rfl⟩
    dsimp only
    rw [hW2] at hDD2 kT2 hsf2 ⊢
    clear hW2
    have hgX : w.heap.size ≤ X.heap.size := hBX.size
    generalize X.heap.size = gT at kT2 hDl hgX ⊢
    clear hBX
    have cT := cell_of_row W2 _ 0 _ _ _ kT2
    have HY := Lib.hid (And.intro hDD2 (And.intro kT2 (And.intro hsf2 (And.intro hDl hgX))))
    clear hDD2 kT2 hsf2 hDl hgX
    rw [rounds_succ]
    go_wp2_with fail
    refine (rof_any 1 (by decide) _).mono ?_
    rintro e V2 ⟨rfl, h1⟩
    obtain ⟨hDD, kT, hsf, hDl, hgX⟩ := HY.out
    clear HY cT
    have hsf1 := ((hsf.new h1).alloc (.cells #[.int .i64 0] 3)).alloc (.cells (Wc 1) 24)
    have kT1 := ((kT.keep h1).alloc (.cells #[.int .i64 0] 3)).alloc (.cells (Wc 1) 24)
    have kK1 := (Blk.new V2 3 #[.int .i64 0]).alloc (.cells (Wc 1) 24)
    have kX1 := Blk.newS V2 (.cells #[.int .i64 0] 3) 24 (Wc 1)
    have hgK : gT < V2.heap.size := (kT.keep h1).lt
    have hD1 := (h1.block D (Array.getElem?_eq_some_iff.1 hDD).1).trans hDD
    have hlD : D < V2.heap.size := (Array.getElem?_eq_some_iff.1 hD1).1
    have hD2 : ((V2.alloc (.cells #[.int .i64 0] 3)).alloc (.cells (Wc 1) 24)).heap[D]? = some (.deferred (some [])) := (Below.heap_alloc _ _ D (by rw [World.size_alloc]; omega)).trans ((Below.heap_alloc V2 _ D hlD).trans hD1)
    have hAB : Abide V2.heap.size (fun (_ : Unit) X => (PF a n0 n1 w X ∧ Blk X gT 3 #[.int .i64 1]) ∧ X.heap[D]? = some (.deferred (some []))) := ((PF.abide (hsf.new h1) (Nat.le_refl _)).and (Abide.blk (kT.keep h1).lt _ (fun _ => #[Value.int .i64 1]))).and (Abide.heap hlD (fun _ => .deferred (some [])))
    have hwK : w.heap.size + 6 < V2.heap.size := by have := HWD.out; omega
    have H := Lib.hid (And.intro hsf1 (And.intro kT1 (And.intro kK1 (And.intro kX1 (And.intro hAB (And.intro hD2 hwK))))))
    clear hsf kT h1 hsf1 kT1 kK1 kX1 hgK hAB hDD hDl hgX hD1 hlD hD2 hwK
    go_wp2_with fail
    obtain ⟨hsf, kT, kK, kX, hAB, hDD, hgK⟩ := H.out
    clear H
    obtain ⟨Z, hZ⟩ : ∃ Z, ((V2.alloc (.cells #[.int .i64 0] 3)).alloc (.cells (Wc 1) 24)) = Z := ⟨_, rfl⟩
    rw [hZ] at hsf kT kK kX hDD ⊢
    clear hZ
    generalize V2.heap.size = gK2 at kK kX hAB hgK ⊢
    have hlZ : D < Z.heap.size := (Array.getElem?_eq_some_iff.1 hDD).1
    have HV := Lib.hid (And.intro hsf (And.intro kT (And.intro kK (And.intro kX (And.intro hAB (And.intro hDD (And.intro hgK hlZ)))))))
    clear hsf kT kK kX hAB hgK hDD hlZ
    refine (wpIn_wide (n := 20)).1 ?_
    refine wpIn_rangeW (n := 20) (by omega) (gf := 23) (lb := #[Value.pointer (some { block := w.heap.size + 1 + 1 + 1, off := 0 }), Value.pointer (some { block := w.heap.size + 1 + 1 + 1 + 1, off := 0 })]) rfl (enters_of Tryd.func23 (by kernel_rfl) rfl)
      (powers_seq (20 - 1) w.heap.size (w.heap.size + 3) (w.heap.size + 4) a n0 (by omega) Z HV.out.1.2.size HV.out.1.1.1.1.2) (Below.refl _ _) HV.out.1.2.size (fun _ => rfl)
      (fun pre X => (((PF a n0 n1 w X ∧ Blk X gT 3 #[.int .i64 1]) ∧ X.heap[D]? = some (.deferred (some []))) ∧ Blk X gK2 3 #[.int .i64 (pre.length : Nat)]) ∧ Blk X (gK2 + 1) 24 (Wc (a ^ pre.length)))
      (fun _ _ _ => False)
      (((((PF.abide HV.out.1 (Nat.le_refl _)).and (Abide.blk HV.out.2.1.lt _ (fun _ => #[Value.int .i64 1]))).and (Abide.heap HV.out.2.2.2.2.2.2.2 (fun _ => .deferred (some [])))).and (Abide.blk HV.out.2.2.1.lt _ (fun pre => #[Value.int .i64 ((List.length pre : Nat) : Int)]))).and (Abide.blk HV.out.2.2.2.1.lt _ (fun pre => Wc (a ^ List.length pre))))
      (fun _ _ _ _ _ hs _ _ => hs)
      (fun pre X h => h.1.1.1.1.1.1.2) ⟨⟨⟨⟨HV.out.1, HV.out.2.1⟩, HV.out.2.2.2.2.2.1⟩, HV.out.2.2.1⟩, HV.out.2.2.2.1⟩
      (fun y a' X => ∃ gx, Blk X gx 24 (Wc (a ^ y)) ∧ a' = { tmps := #[W a, Value.agg #[Value.int IntKind.i64 n0, Value.int IntKind.i64 n1], Value.slice x L cap, Value.pointer (some { block := w.heap.size, off := 0 }), Value.pointer (some { block := w.heap.size + 1, off := 0 }), undef, Value.pointer (some { block := w.heap.size + 1 + 1, off := 0 }), Value.func (Fn.func 23) #[] #[Value.pointer (some { block := w.heap.size + 1 + 1 + 1, off := 0 }), Value.pointer (some { block := w.heap.size + 1 + 1 + 1 + 1, off := 0 })], Value.pointer (some { block := w.heap.size + 1 + 1 + 1 + 1 + 1, off := 0 }), Value.pointer (some { block := gT, off := 0 }), Value.pointer (some { block := gK2, off := 0 }), Value.pointer (some { block := gK2 + 1, off := 0 }), Value.int IntKind.i64 (y : Nat), Value.pointer (some { block := gx, off := 0 }), Value.slice x L cap, Value.int IntKind.i64 (L : Nat), Value.bool false, undef, W a, Value.pointer (some { block := w.heap.size + 1, off := 0 }), Value.int IntKind.i64 n0, Value.func (Fn.func 23) #[] #[Value.pointer (some { block := w.heap.size + 1 + 1 + 1, off := 0 }), Value.pointer (some { block := w.heap.size + 1 + 1 + 1 + 1, off := 0 })], Value.func (Fn.func 23) #[] #[Value.pointer (some { block := w.heap.size + 1 + 1 + 1, off := 0 }), Value.pointer (some { block := w.heap.size + 1 + 1 + 1 + 1, off := 0 })], Value.bool false, Value.pointer (some { block := w.heap.size + 1, off := 0 }), Value.int IntKind.i64 n0, Value.int IntKind.i64 (max 0 n0), Value.int IntKind.i64 (pwK n0 : Nat), Value.int IntKind.i64 1, Value.bool true, Value.int IntKind.i64 0, Value.int IntKind.i64 1, W 1, Value.func (Fn.func 23) #[] #[Value.pointer (some { block := w.heap.size + 1 + 1 + 1, off := 0 }), Value.pointer (some { block := w.heap.size + 1 + 1 + 1 + 1, off := 0 })], Value.int IntKind.i64 (y : Nat), W (a ^ y), undef, undef, undef, undef, undef, undef, undef, undef, undef, undef, undef, undef, undef, undef, undef, undef, undef, undef, undef, undef, undef, undef, undef, undef, undef, undef, Value.int IntKind.i64 0, Value.bool true, Value.bool true, v1, Value.int IntKind.i64 (pwK n0 : Nat), Value.pointer (some { block := w.heap.size + 1, off := 1 }), Value.int IntKind.i64 n1, Value.int IntKind.i64 (max 1 n1), v2, Value.bool false, Value.bool false, Value.bool false, Value.int IntKind.i64 0, Value.bool false, Value.bool false, undef, undef, undef, Value.bool false, Value.bool false, Value.int IntKind.i64 0, undef, undef, undef, undef, undef, undef, undef, undef, undef, undef], defers := [] })
      (fun y a' _ X Y row hs hg hr => by obtain ⟨gx, h1, h2⟩ := hs; exact ⟨gx, blk_cells h1 hg (fun r e => (hr r e).2), h2⟩)
      ?assign ?body ?done ?stop
    case stop =>
      rintro D2 c pre X2 hD2 _ h _
      exact h.elim
    case assign =>
      rintro l2 pre y X K _ hi hK
      have HI := Lib.hid hi
      have HK := Lib.hid hK
      clear hi hK
      gi_wp2
      obtain ⟨⟨⟨⟨h1, h2⟩, h3⟩, h4⟩, h5⟩ := HI.out
      exact HK.out _ _ (Kept.alloc _ _ _) ((Below.refl _ X).alloc h1.2.size _) ⟨⟨⟨⟨h1.alloc _, h2.alloc _⟩, (Below.heap_alloc X _ D (Array.getElem?_eq_some_iff.1 h3).1).trans h3⟩, h4.alloc _⟩, h5.alloc _⟩ ⟨X.heap.size, Blk.new X _ _, rfl⟩
    case body =>
      rintro l2 pre y a' X hl2 ⟨hpre, hyK⟩ hlo ⟨⟨⟨⟨hsf, kT⟩, hDD⟩, kK⟩, kX⟩ ⟨gx, hx, rfl⟩
      have hlen : pre.length = y := by rw [hpre, List.length_range]
      have hsfX : w.heap.size ≤ X.heap.size := hsf.2.size
      rw [hlen] at kK kX
      have cAll := cell_of_row X _ 0 _ _ _ hsf.1.2
      have cT := cell_of_row X _ 0 _ _ _ kT
      have cK := cell_of_row X _ 0 _ _ _ kK
      have x0 := (cell_of_row _ _ 0 _ _ _ kX).trans (wc_get (a ^ y) 0 (by omega))
      have x1 := (cell_of_row _ _ 1 _ _ _ kX).trans (wc_get (a ^ y) 1 (by omega))
      have x2 := (cell_of_row _ _ 2 _ _ _ kX).trans (wc_get (a ^ y) 2 (by omega))
      have x3 := (cell_of_row _ _ 3 _ _ _ kX).trans (wc_get (a ^ y) 3 (by omega))
      have y0 := (cell_of_row _ _ 0 _ _ _ hx).trans (wc_get (a ^ y) 0 (by omega))
      have y1 := (cell_of_row _ _ 1 _ _ _ hx).trans (wc_get (a ^ y) 1 (by omega))
      have y2 := (cell_of_row _ _ 2 _ _ _ hx).trans (wc_get (a ^ y) 2 (by omega))
      have y3 := (cell_of_row _ _ 3 _ _ _ hx).trans (wc_get (a ^ y) 3 (by omega))
      have a0 := (cell_of_row _ _ 0 _ _ _ hsf.1.1.1.1.1.1).trans (wc_get a 0 (by omega))
      have a1 := (cell_of_row _ _ 1 _ _ _ hsf.1.1.1.1.1.1).trans (wc_get a 1 (by omega))
      have a2 := (cell_of_row _ _ 2 _ _ _ hsf.1.1.1.1.1.1).trans (wc_get a 2 (by omega))
      have a3 := (cell_of_row _ _ 3 _ _ _ hsf.1.1.1.1.1.1).trans (wc_get a 3 (by omega))
      have hneq : ∀ w, (binOp .neq 24 (W (a ^ y)) (W (a ^ y))).run Tryd.prog w = .ok (.bool false) w := fun w => by rw [neqWp]; simp
      have HP := Lib.hid (Nat.pow_succ a y)
      have HX0 := Lib.hid (And.intro hsf (And.intro kT (And.intro kK (And.intro kX (And.intro hDD (And.intro hpre hlen))))))
      clear hsf kT kK kX hDD hpre hlen hlo hx
      obtain ⟨e, he⟩ : ∃ e, a ^ y = e := ⟨_, rfl⟩
      rw [he] at HP HX0 x0 x1 x2 x3 y0 y1 y2 y3 hneq ⊢
      clear he
      have hyi : (y : Int) < (pwK n0 : Nat) := by omega
      have hyd : decide (pwK n0 ≤ y) = false := decide_eq_false (by omega)
      gi_wp2_with fail
      refine ⟨trivial, CallsIn.mono (F := Fence.wide.inRound l2) (show CallsIn (Fence.wide.inRound l2) _ _ _ _ _ _ from callsIn_wide.2 (rmul_any e a _)) ?_⟩
      rintro e' Y ⟨rfl, h1⟩
      obtain ⟨hsf, kT, kK, kX, hDD, hpre, hlen⟩ := HX0.out
      clear HX0 cAll cT cK x0 x1 x2 x3 y0 y1 y2 y3 a0 a1 a2 a3 hneq
      have hsfY := hsf.new h1
      have kTY := kT.keep h1
      have kKY := kK.keep h1
      have hDY := (h1.block D (Array.getElem?_eq_some_iff.1 hDD).1).trans hDD
      have kXY := kX.keep h1
      have hgK := HV.out.2.2.2.2.2.2.1
      have hKV : Kept Z.heap.size X Y := Kept.below _ h1
      have hBV : Below w.heap.size X Y := h1.mono hsf.2.size
      clear hsf kT kK kX hDD h1
      have f0 := frozen_of_row _ _ 0 _ _ kXY
      have f1 := frozen_of_row _ _ 1 _ _ kXY
      have f2 := frozen_of_row _ _ 2 _ _ kXY
      have f3 := frozen_of_row _ _ 3 _ _ kXY
      have x0 := (cell_of_row _ _ 0 _ _ _ kXY).trans (wc_get e 0 (by omega))
      have x1 := (cell_of_row _ _ 1 _ _ _ kXY).trans (wc_get e 1 (by omega))
      have x2 := (cell_of_row _ _ 2 _ _ _ kXY).trans (wc_get e 2 (by omega))
      have x3 := (cell_of_row _ _ 3 _ _ _ kXY).trans (wc_get e 3 (by omega))
      have hG := grown_set4 Y (gK2 + 1) (.int .u64 (lb (e * a) 0)) (.int .u64 (lb (e * a) 1)) (.int .u64 (lb (e * a) 2)) (.int .u64 (lb (e * a) 3))
      have hq2 := HV.out.2.2.2.2.1 () Y ((((Y.setCell ⟨gK2 + 1, 0, none⟩ (.int .u64 (lb (e * a) 0))).setCell ⟨gK2 + 1, 1, none⟩ (.int .u64 (lb (e * a) 1))).setCell ⟨gK2 + 1, 2, none⟩ (.int .u64 (lb (e * a) 2))).setCell ⟨gK2 + 1, 3, none⟩ (.int .u64 (lb (e * a) 3))) (some (gK2 + 1)) ⟨⟨hsfY, kTY⟩, hDY⟩ hG (fun r e => by cases e; omega)
      have kK2 := kKY.kept hG (fun e => by injection e; omega)
      have kX2 := kXY.set4 (e * a)
      have hlX : gK2 + 1 < Z.heap.size := HV.out.2.2.2.1.lt
      have hK2 := hKV.trans (Kept.grown hG (fun r e => by cases e; exact hlX))
      have hB2 := step_world hBV hG hsfX (by omega)
      have cK2 := cell_of_row _ _ 0 _ _ _ kK2
      have fK2 := frozen_of_row _ _ 0 _ _ kK2
      have hw1 : IntKind.i64.wrap ((y : Int) + 1) = (y : Int) + 1 := IntWalk.i64_in _ (by have : pwK n0 ≤ 256 := by unfold pwK; omega
                                                                                          omega)
      have hG3 := grownBy_setCell' ((((Y.setCell ⟨gK2 + 1, 0, none⟩ (.int .u64 (lb (e * a) 0))).setCell ⟨gK2 + 1, 1, none⟩ (.int .u64 (lb (e * a) 1))).setCell ⟨gK2 + 1, 2, none⟩ (.int .u64 (lb (e * a) 2))).setCell ⟨gK2 + 1, 3, none⟩ (.int .u64 (lb (e * a) 3))) gK2 (.int .i64 ((y : Int) + 1))
      have hq3 := HV.out.2.2.2.2.1 () _ _ (some gK2) hq2 hG3 (fun r e => by cases e; exact Nat.le_refl _)
      have kK3 := heap_setCell_same ((((Y.setCell ⟨gK2 + 1, 0, none⟩ (.int .u64 (lb (e * a) 0))).setCell ⟨gK2 + 1, 1, none⟩ (.int .u64 (lb (e * a) 1))).setCell ⟨gK2 + 1, 2, none⟩ (.int .u64 (lb (e * a) 2))).setCell ⟨gK2 + 1, 3, none⟩ (.int .u64 (lb (e * a) 3))) gK2 0 _ _ (.int .i64 ((y : Int) + 1)) kK2
      have kX3 := kX2.kept hG3 (fun e => by injection e; omega)
      have hK3 := hK2.trans (Kept.grown hG3 (fun r e => by cases e; omega))
      have hB3 := step_world hB2 hG3 hsfX (by omega)
      have cK3 := cell_of_row _ _ 0 _ _ _ kK3
      have cT3 := cell_of_row _ _ 0 _ _ _ hq3.1.2
      have hl : (((pre ++ [y]).length : Nat) : Int) = (y : Int) + 1 := by simp [hlen]
      have hl2' : (pre ++ [y]).length = y + 1 := by simp [hlen]
      have HX1 := Lib.hid (And.intro hq3 (And.intro kK3 (And.intro kX3 (And.intro hK3 (And.intro hB3 (And.intro hl hl2'))))))
      clear hsfY kTY hDY kKY kXY hKV hBV hG hq2 kK2 kX2 hK2 hB2 hG3 hq3 kK3 kX3 hK3 hB3 hl hl2' hpre hlen hgK hlX
      rename_i K1 hK1
      refine hK1 _ _ ?_
      clear hK1 K1
      gi_wp2_with fail
      obtain ⟨hq3, kK3, kX3, hK3, hB3, hl, hl2⟩ := HX1.out
      exact ⟨hK3, hB3, ⟨hq3, by rw [hl]; exact kK3⟩, by rw [hl2, show a ^ (y + 1) = e * a from HP.out]; exact kX3⟩
    case done =>
      rintro D2 xs X2 hD2 rfl ⟨⟨⟨⟨hsf, kT⟩, hDD⟩, kK⟩, kX⟩ hDD2
      rw [List.length_range] at kK
      have cAll := cell_of_row X2 _ 0 _ _ _ hsf.1.2
      have cT := cell_of_row X2 _ 0 _ _ _ kT
      have cK := cell_of_row X2 _ 0 _ _ _ kK
      have hne : D < D2 := Nat.lt_of_lt_of_le HV.out.2.2.2.2.2.2.2 hD2
      have HZ := Lib.hid (And.intro hsf (And.intro hDD (And.intro hDD2 hne)))
      clear hsf kT kK kX hDD hDD2 hD2 hne HV
      go_wp2_with fail
      obtain ⟨hsf, hDD, hDD2, hne⟩ := HZ.out
      have kT2 := Blk.new X2 3 #[.int .i64 2]
      have hsf2 := hsf.alloc (.cells #[.int .i64 2] 3)
      have hD1 := (Below.heap_alloc X2 (.cells #[.int .i64 2] 3) D (Array.getElem?_eq_some_iff.1 hDD).1).trans hDD
      have hD2 := (Below.heap_alloc X2 (.cells #[.int .i64 2] 3) D2 (Array.getElem?_eq_some_iff.1 hDD2).1).trans hDD2
      clear hsf hDD hDD2 cT cK cAll
      obtain ⟨X3, hX3⟩ : ∃ X3, X2.alloc (.cells #[.int .i64 2] 3) = X3 := ⟨_, rfl⟩
      rw [hX3] at kT2 hsf2 hD1 hD2 ⊢
      clear hX3
      generalize X2.heap.size = gU at kT2 ⊢
      have cT := cell_of_row X3 _ 0 _ _ _ kT2
      have hgs : GS a D D2 w X3 := ⟨⟨⟨⟨hsf2.1.1.1.1.1.1, _, hsf2.1.1.1.1.2⟩, hD1⟩, hD2⟩, hsf2.2⟩
      have HE := Lib.hid (And.intro hgs hne)
      clear kT2 hsf2 hD1 hD2 hne HZ hgs
      rw [rounds_succ]
      go_wp2_with fail
      obtain ⟨hgs, hne⟩ := HE.out
      have hwD : w.heap.size + 2 < D := by have := HWD.out; omega
      have hwD2 : w.heap.size + 2 < D2 := by omega
      have ca0 : ∀ w', GS a D D2 w w' → w'.cell? ⟨w.heap.size, 0, none⟩ = some (.int .u64 (lb a 0)) := fun w' h => h.1.1.1.1.get4.1
      have ca1 : ∀ w', GS a D D2 w w' → w'.cell? ⟨w.heap.size, 1, none⟩ = some (.int .u64 (lb a 1)) := fun w' h => h.1.1.1.1.get4.2.1
      have ca2 : ∀ w', GS a D D2 w w' → w'.cell? ⟨w.heap.size, 2, none⟩ = some (.int .u64 (lb a 2)) := fun w' h => h.1.1.1.1.get4.2.2.1
      have ca3 : ∀ w', GS a D D2 w w' → w'.cell? ⟨w.heap.size, 3, none⟩ = some (.int .u64 (lb a 3)) := fun w' h => h.1.1.1.1.get4.2.2.2.1
      have cr : ∀ w', GS a D D2 w w' → w'.cell? ⟨w.heap.size + 2, 0, none⟩ = some (heldAt w' (w.heap.size + 2)) := fun w' h => h.cell
      have fr : ∀ w', GS a D D2 w w' → w'.frozen? ⟨w.heap.size + 2, 0, none⟩ = false := fun w' h => h.frozen
      have HS2 := Lib.hid (fun X (h : GS a D D2 w X) => HS.out X h.2)
      have HR2 := Lib.hid (fun X (h : GS a D D2 w X) => HR.out X h.2)
      have HW2 := Lib.hid (fun X (h : GS a D D2 w X) => pworks_any X (HT.out.below HT.out.lt h.2))
      have heq := eq_sameW
      have h0S : GS a D D2 w X3.drew := hgs.drew
      clear HE HS HR HT cT hgs
      refine wp_noPanic ?_
      go_region_held3 (fun w' => GS a D D2 w w') (first | assumption | exact GS.new (by assumption) (by assumption) | exact GS.set (by assumption) hwD hwD2 _)
        (first
          | (go_at_call 14; refine (HS2.out _ (by assumption)).mono ?_; rintro e wk ⟨rfl, hk⟩)
          | (go_at_call 15; refine (HR2.out _ (by assumption)).mono ?_; rintro e wk ⟨rfl, hk⟩)
          | (go_at_call 10; refine (HW2.out _ (by assumption)).mono ?_; rintro e wk ⟨rfl, hk⟩))
      all_goals
        have hH : GS a D D2 w (wk.setCell ⟨w.heap.size + 2, 0, none⟩ (.bool true)) := by assumption
        have hG : ∃ u, Blk wk (w.heap.size + 2) 4 #[u] := by
          rename_i wa ha wb hb _
          exact (((h0S.new ha).new hb).new (by assumption)).1.1.1.2
        obtain ⟨u, hu⟩ := hG
        have bY : Blk (wk.setCell ⟨w.heap.size + 2, 0, none⟩ (.bool true)) (w.heap.size + 2) 4 #[.bool true] := heap_setCell_same wk (w.heap.size + 2) 0 _ _ (.bool true) hu
        obtain ⟨Y, hY⟩ : ∃ Y, wk.setCell ⟨w.heap.size + 2, 0, none⟩ (.bool true) = Y := ⟨_, rfl⟩
        rw [hY] at hH bY ⊢
        have hDY := hH.1.1.2
        have hEY := hH.1.2
        have hBY := hH.2
        clear hY hu hH h0S
        have hD2' : (Y.putObj D2 (.deferred none)).heap[D]? = some (.deferred (some [])) := (World.putObj_heap_other (by omega)).trans hDY
        have bY2 : Blk (Y.putObj D2 (.deferred none)) (w.heap.size + 2) 4 #[.bool true] := bY.kept (grownBy_putObj' Y D2 _) (by intro e; cases e; omega)
        have bY3 : Blk ((Y.putObj D2 (.deferred none)).putObj D (.deferred none)) (w.heap.size + 2) 4 #[.bool true] := bY2.kept (grownBy_putObj' _ D _) (by intro e; cases e; omega)
        have q0 := cell_of_row _ _ 0 _ _ _ bY3
        simp only [noPanic]
        go_wp2
        refine ⟨by simp, .inl ⟨_, _, rfl, run_takeDeferred hEY, ?_⟩⟩
        refine ⟨by simp, .inl ⟨_, _, rfl, run_takeDeferred hD2', ?_⟩⟩
        exact ⟨.bool true, by simp [results, Tryd.results4, go_sem, q0], rfl, (hBY.trans (below_put Y _ (by omega))).trans (below_put _ _ (by omega))⟩
end Go.Proofs.YtidpekcegocjfaaDoor
