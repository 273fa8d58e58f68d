/- split: SplitSteps' walk. -/
import Derived.Test.YthdapmceafnhgaaUb
import Derived.Test.YthdapmceafnhgaaTn
import Derived.Sort.QuietTacIn
import Derived.Deep.QuietTactic
import Derived.BigQuiet
namespace Go.Proofs.Ythdapmceafnhgaa
open Go.RowKit Go.Shelf
attribute [local go_sem] ix0 ix1 ix2 ix3
attribute [local go_sem] Oper.semAt_some
attribute [local irreducible] lb mdN
/-- A drawn region in a round that reads: walked once. -/
theorem wpIn_region_quiet_round {n : Nat} {P : Program} {id : Nat} {Q : Exit → Act → World → Prop} {a : Act} {w : World} {l : List Oper} (l2 : Nat) (hm : P.follows .mixedOrders = true)
    (hnd : (l.toArray.all fun o => match o.op with | .defer _ => false | _ => true) = true) (hB : Region.lexB .any l.toArray = true)
    (h : wpQuietIn Fence.wide n P l.toArray (fun w' => ∃ n, w' = w.drewN n) (fun a' => ∀ w', (∃ n, w' = w.drewN n) → Q .normal a' w') l a) : (Code.region id l.toArray true).wpIn (Fence.wide.inRound l2) n P Q a w := by
  simp only [Region.lexB, Bool.and_eq_true] at hB
  refine wpIn_region_round l2 hm hnd (wpAnyIn_of_quiet (C := fun w' => ∃ n, w' = w.drewN n) (Q := fun a' => ∀ w', (∃ n, w' = w.drewN n) → Q .normal a' w') rfl (fun _ w' hw' h => h w' hw') _ _ _ _ ⟨1, rfl⟩ ?_)
  have := wpAnyQIn_lex (F := Fence.wide) (n := n) (C := fun w' => ∃ n, w' = w.drewN n) (md := .any) hB.1 l 0 (Array.replicate l.toArray.size false) a (by simp) (by simpa using hB.2) (by simpa using h)
  simpa using this
/-- Ways that meet at the head of a round: what follows is shown once. -/
theorem join_rounds {F : Nat → World → Prop} {FR : Nat → Nat → Value → Value → Value → Act} {WX : World → World} {G : Act → World → Prop} {R : Prop}
    (f : Kept1 (∀ D X v1 v2 v3, F D X → G (FR D X.heap.size v1 v2 v3) (WX X)) → R) (t : ∀ D X v1 v2 v3, F D X → G (FR D X.heap.size v1 v2 v3) (WX X)) : R := f ⟨t⟩
theorem many_done (N : Nat) (n : Int) (h : N = 0 ∨ (N : Int) < n) : min (N : Int) (max 1 n) = N := by omega
theorem many_left (N k : Nat) (n : Int) (h1 : k ≤ N) (h0 : 0 < k) (h2 : n ≤ k) (h3 : k = 1 ∨ (k : Int) - 1 < n) : min (N : Int) (max 1 n) = k := by omega

set_option maxRecDepth 100000 in
set_option maxHeartbeats 4000000 in
theorem steps_walk (a b : Nat) (n : Int) (ha : a < MM) (hb : b < MM) (w : World) :
    Calls Try.prog 3 #[W a, W b, .int .i64 n] w fun e w' => e = .returned (.bool true) ∧ Below w.heap.size w w' := by
  have hnil : ∀ (p q : Value) w, (binOp .eql 28 (.func (.func 8) #[] #[p, q]) .nilFunc).run Try.prog w = .ok (.bool false) w := fun _ _ _ => by kernel_rfl
  have HA := Lib.hid ha
  have HB := Lib.hid hb
  clear ha hb
  refine (callsIn_wide (n := 20)).1 ?_
  refine callsIn_of_wp_marks Try.func3 rfl trivial ?_ rfl
  simp only [Try.ntmps3, List.size_toArray, List.length_cons, List.length_nil, Nat.reduceAdd, Nat.reduceSub, Array.replicate_succ, Array.replicate_zero, List.push_toArray, List.append_toArray, List.nil_append, List.cons_append]
  refine (wpIn_wide (n := 20)).2 ?_
  have k2 : Blk ((((w.alloc (.cells (Wc a) 24)).alloc (.cells (Wc b) 24)).alloc (.cells #[.int .i64 n] 3)).alloc (.cells #[.bool false] 4)) (w.heap.size + 1 + 1) 3 #[.int .i64 n] := by
    have h := Blk.newS (w.alloc (.cells (Wc a) 24)) (.cells (Wc b) 24) 3 #[.int .i64 n]
    rw [World.size_alloc] at h
    exact h.alloc _
  have k3 : Blk ((((w.alloc (.cells (Wc a) 24)).alloc (.cells (Wc b) 24)).alloc (.cells #[.int .i64 n] 3)).alloc (.cells #[.bool false] 4)) (w.heap.size + 1 + 1 + 1) 4 #[.bool false] := by
    have h := Blk.newS ((w.alloc (.cells (Wc a) 24)).alloc (.cells (Wc b) 24)) (.cells #[.int .i64 n] 3) 4 #[.bool false]
    rwa [World.size_alloc, World.size_alloc] at h
  have k0 : Blk ((((w.alloc (.cells (Wc a) 24)).alloc (.cells (Wc b) 24)).alloc (.cells #[.int .i64 n] 3)).alloc (.cells #[.bool false] 4)) w.heap.size 24 (Wc a) := (((Blk.new _ _ _).alloc _).alloc _).alloc _
  have k1 : Blk ((((w.alloc (.cells (Wc a) 24)).alloc (.cells (Wc b) 24)).alloc (.cells #[.int .i64 n] 3)).alloc (.cells #[.bool false] 4)) (w.heap.size + 1) 24 (Wc b) := ((Blk.newS w _ _ _).alloc _).alloc _
  have hW : Below w.heap.size w ((((w.alloc (.cells (Wc a) 24)).alloc (.cells (Wc b) 24)).alloc (.cells #[.int .i64 n] 3)).alloc (.cells #[.bool false] 4)) := balloc (balloc (balloc (balloc (Below.refl _ _) _) _) _) _
  have H := Lib.hid (And.intro k0 (And.intro k1 (And.intro k2 (And.intro k3 hW))))
  clear k0 k1 k2 k3 hW
  go_wp2_with fail
  refine (rsteps_any a b HA.out HB.out _).mono ?_
  rintro e w1 ⟨v, N, rfl, hN0, hN1, hown, h1⟩
  obtain ⟨k0, k1, k2, k3, hW⟩ := H.out
  clear H
  have hlt := k3.lt
  obtain ⟨x, cap, rfl, hx⟩ := owns_slice hown
  replace hown := owns_mono hown (show w.heap.size + 4 ≤ _ by simp)
  replace hown := hown.alloc (.cells #[.slice x N cap] 25)
  replace k0 := (k0.block_below h1).alloc (.cells #[.slice x N cap] 25)
  replace k1 := (k1.block_below h1).alloc (.cells #[.slice x N cap] 25)
  replace k2 := (k2.block_below h1).alloc (.cells #[.slice x N cap] 25)
  replace k3 := (k3.block_below h1)
  have hlt := k3.lt
  replace k3 := k3.alloc (.cells #[.slice x N cap] 25)
  have kS := Blk.new w1 25 #[.slice x N cap]
  replace hW := balloc (bstep hW h1) (.cells #[.slice x N cap] 25)
  have H := Lib.hid (And.intro k0 (And.intro k1 (And.intro k2 (And.intro k3 (And.intro kS (And.intro hown hW))))))
  clear k0 k1 k2 k3 kS hW hown h1 hx
  have HN := Lib.hid (And.intro hN0 hN1)
  clear hN0 hN1
  go_upto_region 2 with fail
  obtain ⟨w2, hw2⟩ : ∃ w2, w1.alloc (.cells #[.slice x N cap] 25) = w2 := ⟨_, rfl⟩
  rw [hw2] at H ⊢
  clear hw2
  generalize w1.heap.size = gs at H hlt ⊢
  obtain ⟨k0, k1, k2, k3, kS, hown, hW⟩ := H.out
  have ca0 := (cell_of_row w2 _ 0 _ _ _ k0).trans (wc_get a 0 (by omega))
  have ca1 := (cell_of_row w2 _ 1 _ _ _ k0).trans (wc_get a 1 (by omega))
  have ca2 := (cell_of_row w2 _ 2 _ _ _ k0).trans (wc_get a 2 (by omega))
  have ca3 := (cell_of_row w2 _ 3 _ _ _ k0).trans (wc_get a 3 (by omega))
  have cb0 := (cell_of_row w2 _ 0 _ _ _ k1).trans (wc_get b 0 (by omega))
  have cb1 := (cell_of_row w2 _ 1 _ _ _ k1).trans (wc_get b 1 (by omega))
  have cb2 := (cell_of_row w2 _ 2 _ _ _ k1).trans (wc_get b 2 (by omega))
  have cb3 := (cell_of_row w2 _ 3 _ _ _ k1).trans (wc_get b 3 (by omega))
  clear k0 k1 k2 k3 kS hown hW
  go_wp2_with fail
  refine (steps_any a b _).mono ?_
  rintro e V ⟨rfl, rfl⟩
  obtain ⟨k0, k1, k2, k3, kS, hown, hW⟩ := H.out
  clear H k0 k1 ca0 ca1 ca2 ca3 cb0 cb1 cb2 cb3
  have kA := ((Blk.new w2 24 (Wc a)).alloc (.cells (Wc b) 24)).alloc (.cells #[.int .i64 0] 3)
  have kB := (Blk.newS w2 (.cells (Wc a) 24) 24 (Wc b)).alloc (.cells #[.int .i64 0] 3)
  have kT : Blk (((w2.alloc (.cells (Wc a) 24)).alloc (.cells (Wc b) 24)).alloc (.cells #[.int .i64 0] 3)) (w2.heap.size + 1 + 1) 3 #[.int .i64 0] := by
    have h := Blk.newS (w2.alloc (.cells (Wc a) 24)) (.cells (Wc b) 24) 3 #[.int .i64 0]
    rwa [World.size_alloc] at h
  have hsf : SF a b N n x cap gs w2.heap.size w (((w2.alloc (.cells (Wc a) 24)).alloc (.cells (Wc b) 24)).alloc (.cells #[.int .i64 0] 3)) :=
    ⟨⟨⟨⟨⟨⟨((k2.alloc _).alloc _).alloc _, ((k3.alloc _).alloc _).alloc _⟩, ((kS.alloc _).alloc _).alloc _⟩, ((hown.alloc _).alloc _).alloc _⟩, kA⟩, kB⟩, balloc (balloc (balloc hW _) _) _⟩
  have hg9 : w.heap.size + 4 ≤ w2.heap.size + 1 + 1 := by have := k3.lt; omega
  clear k2 k3 kS hown hW kA kB
  have H := Lib.hid (And.intro hsf (And.intro kT hg9))
  clear hsf kT hg9
  go_wp2_with fail
  obtain ⟨hsf, kT, hg9⟩ := H.out
  clear H hnil
  obtain ⟨W0, hW0⟩ : ∃ W0, (((w2.alloc (.cells (Wc a) 24)).alloc (.cells (Wc b) 24)).alloc (.cells #[.int .i64 0] 3)) = W0 := ⟨_, rfl⟩
  rw [hW0] at hsf kT ⊢
  clear hW0
  generalize w2.heap.size = gA at hsf kT hg9 ⊢
  have cT := cell_of_row W0 _ 0 _ _ _ kT
  have H := Lib.hid (And.intro hsf (And.intro kT hg9))
  clear hsf kT hg9
  refine wp_loop_rounds 3 ?_
  rw [rounds_succ]
  go_wp2_with fail
  obtain ⟨hsf, kT, hg9⟩ := H.out
  have hsf1 := hsf.alloc (.cells #[.int .i64 0] 3)
  have kT1 := kT.alloc (.cells #[.int .i64 0] 3)
  have kK1 := Blk.new W0 3 #[.int .i64 0]
  have hgK : gA + 1 + 1 < W0.heap.size := kT.lt
  have hAB : Abide W0.heap.size (fun (_ : Unit) X => SF a b N n x cap gs gA w X ∧ Blk X (gA + 1 + 1) 3 #[.int .i64 0]) := (SF.abide hsf (Nat.le_refl _)).and (Abide.blk kT.lt _ (fun _ => #[Value.int .i64 0]))
  clear hsf kT H cT
  obtain ⟨V, hV⟩ : ∃ V, W0.alloc (.cells #[.int .i64 0] 3) = V := ⟨_, rfl⟩
  rw [hV] at hsf1 kT1 kK1 ⊢
  clear hV
  generalize W0.heap.size = gK at kK1 hgK hAB ⊢
  have HV := Lib.hid (And.intro hsf1 (And.intro kT1 (And.intro kK1 (And.intro hAB (And.intro hg9 (And.intro hgK (show w.heap.size ≤ gK by omega)))))))
  clear hsf1 kT1 kK1 hAB hg9 hgK
  refine join_rounds (G := ?G) (F := (fun D X => (SF a b N n x cap gs gA w X ∧ Blk X (gA + 1 + 1) 3 #[.int .i64 0]) ∧ V.heap.size ≤ D ∧ X.heap[D]? = some (.deferred (some [])))) (FR := fun D q v1 v2 v3 => { tmps := #[W a, W b, Value.int IntKind.i64 n, Value.pointer (some { block := w.heap.size, off := 0 }), Value.pointer (some { block := w.heap.size + 1, off := 0 }), Value.pointer (some { block := w.heap.size + 1 + 1, off := 0 }), Value.pointer (some { block := w.heap.size + 1 + 1 + 1, off := 0 }), Value.pointer (some { block := gs, off := 0 }), Value.func (Fn.func 8) #[] #[Value.pointer (some { block := gA, off := 0 }), Value.pointer (some { block := gA + 1, off := 0 })], Value.pointer (some { block := q, off := 0 }), Value.pointer (some { block := gK, off := 0 }), undef, Value.agg #[Value.int IntKind.u64 (lb a 0), Value.int IntKind.u64 (lb a 1), Value.int IntKind.u64 (lb a 2), Value.int IntKind.u64 (lb a 3)], Value.agg #[Value.int IntKind.u64 (lb b 0), Value.int IntKind.u64 (lb b 1), Value.int IntKind.u64 (lb b 2), Value.int IntKind.u64 (lb b 3)], Value.slice x N cap, Value.agg #[Value.int IntKind.u64 (lb a 0), Value.int IntKind.u64 (lb a 1), Value.int IntKind.u64 (lb a 2), Value.int IntKind.u64 (lb a 3)], Value.agg #[Value.int IntKind.u64 (lb b 0), Value.int IntKind.u64 (lb b 1), Value.int IntKind.u64 (lb b 2), Value.int IntKind.u64 (lb b 3)], Value.func (Fn.func 8) #[] #[Value.pointer (some { block := gA, off := 0 }), Value.pointer (some { block := gA + 1, off := 0 })], Value.func (Fn.func 8) #[] #[Value.pointer (some { block := gA, off := 0 }), Value.pointer (some { block := gA + 1, off := 0 })], Value.bool false, Value.int IntKind.i64 0, Value.bool true, Value.int IntKind.i64 0, Value.int IntKind.i64 1, Value.func (Fn.func 8) #[] #[Value.pointer (some { block := gA, off := 0 }), Value.pointer (some { block := gA + 1, off := 0 })], undef, undef, undef, undef, undef, undef, undef, undef, undef, undef, undef, undef, undef, undef, undef, undef, undef, undef, undef, undef, undef, undef, Value.int IntKind.i64 0, Value.bool true, Value.bool true, v1, Value.slice x N cap, Value.int IntKind.i64 ↑N, Value.int IntKind.i64 n, v2, v3, Value.bool false, Value.bool false, Value.bool false, Value.int IntKind.i64 0, Value.bool false, Value.bool false, undef, undef, undef, undef, Value.bool false, Value.bool false, Value.int IntKind.i64 0, undef], defers := [{ target := Target.collected D, args := #[] }] }) (WX := fun X => X.alloc (.cells #[.int .i64 1] 3)) (fun (keep : Kept1 _) => ?ways) ?rest
  case ways =>
    refine (wpIn_wide (n := 20)).1 ?_
    refine wpIn_rangeB (n := 20) (by omega) (gf := 8) (lb := #[.pointer (some ⟨gA, 0, none⟩), .pointer (some ⟨gA + 1, 0, none⟩)]) rfl (enters_of Try.func8 (by kernel_rfl) rfl)
      (steps_seq (20 - 1) w.heap.size gA (gA + 1) a b (by omega) HA.out HB.out V HV.out.1.2.size HV.out.1.1.1.2 HV.out.1.1.2) (Below.refl _ _) HV.out.1.2.size (fun _ => rfl)
      (fun pre X => ((SF a b N n x cap gs gA w X ∧ Blk X (gA + 1 + 1) 3 #[.int .i64 0]) ∧ Blk X gK 3 #[.int .i64 (pre.length : Nat)]) ∧ (pre.length = 0 ∨ (pre.length : Int) < n))
      (fun c pre X => ((SF a b N n x cap gs gA w X ∧ Blk X (gA + 1 + 1) 3 #[.int .i64 0]) ∧ Blk X gK 3 #[.int .i64 (pre.length : Nat)]) ∧ (c = .exit 2 ∧ n ≤ pre.length ∧ (pre.length = 1 ∨ (pre.length : Int) - 1 < n)))
      ((((SF.abide HV.out.1 (Nat.le_refl _)).and (Abide.blk HV.out.2.1.lt _ (fun _ => #[Value.int .i64 0]))).and (Abide.blk HV.out.2.2.1.lt _ (fun pre => #[Value.int .i64 ((List.length pre : Nat) : Int)]))).and (fun _ _ _ _ hs _ _ => hs))
      (fun _ => (((SF.abide HV.out.1 (Nat.le_refl _)).and (Abide.blk HV.out.2.1.lt _ (fun _ => #[Value.int .i64 0]))).and (Abide.blk HV.out.2.2.1.lt _ (fun pre => #[Value.int .i64 ((List.length pre : Nat) : Int)]))).and (fun _ _ _ _ hs _ _ => hs))
      (fun _ _ _ => trivial) ⟨⟨⟨HV.out.1, HV.out.2.1⟩, HV.out.2.2.1⟩, .inl rfl⟩
      (fun y a' X => ∃ gx, Blk X gx 24 (Wc (eu a b y)) ∧ a' = { tmps := #[W a, W b, Value.int IntKind.i64 n, Value.pointer (some { block := w.heap.size, off := 0 }), Value.pointer (some { block := w.heap.size + 1, off := 0 }), Value.pointer (some { block := w.heap.size + 1 + 1, off := 0 }), Value.pointer (some { block := w.heap.size + 1 + 1 + 1, off := 0 }), Value.pointer (some { block := gs, off := 0 }), Value.func (Fn.func 8) #[] #[Value.pointer (some { block := gA, off := 0 }), Value.pointer (some { block := gA + 1, off := 0 })], Value.pointer (some { block := gA + 1 + 1, off := 0 }), Value.pointer (some { block := gK, off := 0 }), Value.pointer (some { block := gx, off := 0 }), Value.agg #[Value.int IntKind.u64 (lb a 0), Value.int IntKind.u64 (lb a 1), Value.int IntKind.u64 (lb a 2), Value.int IntKind.u64 (lb a 3)], Value.agg #[Value.int IntKind.u64 (lb b 0), Value.int IntKind.u64 (lb b 1), Value.int IntKind.u64 (lb b 2), Value.int IntKind.u64 (lb b 3)], Value.slice x N cap, Value.agg #[Value.int IntKind.u64 (lb a 0), Value.int IntKind.u64 (lb a 1), Value.int IntKind.u64 (lb a 2), Value.int IntKind.u64 (lb a 3)], Value.agg #[Value.int IntKind.u64 (lb b 0), Value.int IntKind.u64 (lb b 1), Value.int IntKind.u64 (lb b 2), Value.int IntKind.u64 (lb b 3)], Value.func (Fn.func 8) #[] #[Value.pointer (some { block := gA, off := 0 }), Value.pointer (some { block := gA + 1, off := 0 })], Value.func (Fn.func 8) #[] #[Value.pointer (some { block := gA, off := 0 }), Value.pointer (some { block := gA + 1, off := 0 })], Value.bool false, Value.int IntKind.i64 0, Value.bool true, undef, undef, Value.func (Fn.func 8) #[] #[Value.pointer (some { block := gA, off := 0 }), Value.pointer (some { block := gA + 1, off := 0 })], W (eu a b y), undef, undef, undef, undef, undef, undef, undef, undef, undef, undef, undef, undef, undef, undef, undef, undef, undef, undef, undef, undef, undef, undef, undef, undef, undef, undef, undef, undef, undef, undef, undef, undef, undef, undef, undef, undef, undef, undef, undef, undef, undef, undef, undef, undef], defers := [] })
      (fun y a' _ X Y row hs hg hr => by obtain ⟨gx, h1, h2⟩ := hs; exact ⟨gx, blk_cells h1 hg (fun r e => (hr r e).2), h2⟩)
      ?assign ?body ?done ?stop
    case assign =>
      rintro l2 pre y X K _ hi hK
      have HI := Lib.hid hi
      have HK := Lib.hid hK
      clear hi hK
      gi_wp2
      obtain ⟨⟨⟨h1, h2⟩, h3⟩, h4⟩ := HI.out
      exact HK.out _ _ (Kept.alloc _ _ _) ((Below.refl _ X).alloc h1.2.size _) ⟨⟨⟨h1.alloc _, h2.alloc _⟩, h3.alloc _⟩, h4⟩ ⟨X.heap.size, Blk.new X _ _, rfl⟩
    case body =>
      rintro l2 pre y a' X hl2 ⟨hpre, hnz⟩ hlo ⟨⟨⟨hsf, kT⟩, kK⟩, hd⟩ ⟨gx, hx, rfl⟩
      have hyN : y < N := Nat.lt_of_not_le fun h => hnz N h HN.out.1
      have hlen : pre.length = y := by rw [hpre, List.length_range]
      rw [hlen] at kK hd
      obtain ⟨g, rfl, hgx, hcx⟩ := hsf.want hyN
      have w0 := hcx 0 (by omega)
      have w1' := hcx 1 (by omega)
      have w2' := hcx 2 (by omega)
      have w3' := hcx 3 (by omega)
      rw [Nat.add_zero] at w0
      have cS : X.cell? ⟨gs, 0, none⟩ = some (.slice (some ⟨g, 0, none⟩) N cap) := cell_of_row X _ 0 _ _ _ hsf.1.1.1.1.2
      have cK : X.cell? ⟨gK, 0, none⟩ = some (.int .i64 y) := cell_of_row X _ 0 _ _ _ kK
      have x0 := (cell_of_row X _ 0 _ _ _ hx).trans (wc_get (eu a b y) 0 (by omega))
      have x1 := (cell_of_row X _ 1 _ _ _ hx).trans (wc_get (eu a b y) 1 (by omega))
      have x2 := (cell_of_row X _ 2 _ _ _ hx).trans (wc_get (eu a b y) 2 (by omega))
      have x3 := (cell_of_row X _ 3 _ _ _ hx).trans (wc_get (eu a b y) 3 (by omega))
      have hneq : ∀ w, (binOp .neq 24 (W (eu a b y)) (W (eu a b y))).run Try.prog w = .ok (.bool false) w := fun w => by rw [neqW2]; simp
      have HX0 := Lib.hid (And.intro hsf (And.intro kT (And.intro kK (And.intro hd (And.intro hpre hlen)))))
      clear hsf kT kK hd hpre hlen hcx hnz hlo hx
      obtain ⟨e, he⟩ : ∃ e, eu a b y = e := ⟨_, rfl⟩
      rw [he] at w0 w1' w2' w3' x0 x1 x2 x3 hneq ⊢
      clear he
      have hn1 : decide (N ≤ y) = false := decide_eq_false (by omega)
      have hyi : (y : Int) < (N : Int) := by omega
      gi_wp2_with fail
      refine wpIn_region_quiet_round l2 (by kernel_rfl) (by kernel_rfl) (by kernel_rfl) ?_
      repeat (quiet_step_in (fail))
      refine wpQuietIn_nil ?_
      intro _ hw'
      obtain ⟨nq, hw''⟩ := hw'
      subst hw''
      obtain ⟨hsf, kT, kK, hd, hpre, hlen⟩ := HX0.out
      obtain ⟨Xq, hXq⟩ : ∃ Xq, X.drewN nq = Xq := ⟨_, rfl⟩
      have hGq : X.grownBy Xq none := by rw [← hXq]; exact ⟨rfl, rfl, rfl, Nat.le_refl _, fun _ _ _ => rfl⟩
      have hKX : Kept V.heap.size X Xq := by rw [← hXq]; exact ⟨Nat.le_refl _, fun _ _ _ => rfl⟩
      have hBX : Below w.heap.size X Xq := by rw [← hXq]; exact below_drewN (Below.refl _ X) nq
      have hq2 := HV.out.2.2.2.1 () X Xq none ⟨hsf, kT⟩ hGq (fun _ e => by cases e)
      have kKq : Blk Xq gK 3 #[.int .i64 y] := kK.kept hGq (by simp)
      rw [hXq]
      clear hXq hGq hsf kT kK HX0 cS cK w0 w1' w2' w3' x0 x1 x2 x3 hneq hn1 hyi hgx
      have cN := cell_of_row Xq _ 0 _ _ _ hq2.1.1.1.1.1.1.1
      have cT := cell_of_row Xq _ 0 _ _ _ hq2.2
      have cK := cell_of_row Xq _ 0 _ _ _ kKq
      have fK := frozen_of_row Xq _ 0 _ _ kKq
      have hlK : gK < V.heap.size := HV.out.2.2.1.lt
      have hw1 : IntKind.i64.wrap ((y : Int) + 1) = (y : Int) + 1 := IntWalk.i64_in _ (by have := eu_few a b N HB.out HN.out.2; omega)
      have hef2 := HV.out.2.2.2.1 () Xq (Xq.setCell ⟨gK, 0, none⟩ (.int .i64 ((y : Int) + 1))) (some gK) hq2 (grownBy_setCell' Xq gK _) (fun r e => by cases e; exact Nat.le_refl _)
      have kK2 : Blk (Xq.setCell ⟨gK, 0, none⟩ (.int .i64 ((y : Int) + 1))) gK 3 #[.int .i64 ((y : Int) + 1)] := heap_setCell_same Xq gK 0 _ _ (.int .i64 ((y : Int) + 1)) kKq
      have cT2 := cell_of_row _ _ 0 _ _ _ hef2.2
      have cN2 := cell_of_row _ _ 0 _ _ _ hef2.1.1.1.1.1.1.1
      have cK2 := cell_of_row _ _ 0 _ _ _ kK2
      have hl : (((pre ++ [y]).length : Nat) : Int) = (y : Int) + 1 := by simp [hlen]
      have hKs : Kept V.heap.size X (Xq.setCell ⟨gK, 0, none⟩ (.int .i64 ((y : Int) + 1))) := hKX.trans (Kept.set Xq (p := ⟨gK, 0, none⟩) hlK _)
      have hBs : Below w.heap.size X (Xq.setCell ⟨gK, 0, none⟩ (.int .i64 ((y : Int) + 1))) := hBX.setCell (p := ⟨gK, 0, none⟩) HV.out.2.2.2.2.2.2 _
      have HX1 := Lib.hid (And.intro hef2 (And.intro kK2 (And.intro hd (And.intro hKs (And.intro hBs hl)))))
      clear hef2 kK2 hd hKs hBs hl hq2 kKq hpre hlen hKX hBX
      by_cases hcn : n ≤ (y : Int) + 1
      · have hcb : decide (n ≤ (y : Int) + 1) = true := decide_eq_true hcn
        gi_wp2_with fail
        obtain ⟨h3, hk, hd, hKs, hBs, hl⟩ := HX1.out
        refine ⟨hKs, ⟨h3, by rw [hl]; exact hk⟩, rfl, by rw [hl]; exact hcn, ?_⟩
        rcases hd with hd | hd
        · exact .inl (by omega)
        · exact .inr (by rw [hl]; omega)
      · have hcb : decide (n ≤ (y : Int) + 1) = false := decide_eq_false hcn
        gi_wp2_with fail
        obtain ⟨h3, hk, hd, hKs, hBs, hl⟩ := HX1.out
        exact ⟨hKs, hBs, ⟨h3, by rw [hl]; exact hk⟩, .inr (by rw [hl]; omega)⟩
    case done =>
      rintro D xs X hD ⟨N', rfl, hN0, hN1⟩ ⟨⟨⟨hsf, kT⟩, kK⟩, hd⟩ hDD
      obtain rfl : N' = N := by
        rcases Nat.lt_trichotomy N' N with h | h | h
        · exact absurd hN0 (HN.out.2 _ h)
        · exact h
        · exact absurd HN.out.1 (hN1 _ h)
      rw [List.length_range] at kK hd
      have hmin := many_done _ n (by omega)
      have cS := cell_of_row X _ 0 _ _ _ hsf.1.1.1.1.2
      have cN := cell_of_row X _ 0 _ _ _ hsf.1.1.1.1.1.1
      have cT := cell_of_row X _ 0 _ _ _ kT
      have cK := cell_of_row X _ 0 _ _ _ kK
      have HF := Lib.hid (And.intro (And.intro hsf kT) (And.intro hD hDD))
      clear hsf kT kK hDD hD hd hN0 hN1
      go_wp2_with fail
      all_goals exact keep.1 D X _ _ _ HF.out
    case stop =>
      rintro D c pre X hD ⟨m, hpre, hm⟩ ⟨⟨⟨hsf, kT⟩, kK⟩, rfl, hn1, hn2⟩ hDD
      have hmN : m < N := Nat.lt_of_not_le fun h => hm N h HN.out.1
      have hlen : pre.length = m + 1 := by rw [hpre, List.length_range]
      rw [hlen] at kK hn1 hn2
      have hmin := many_left N (m + 1) n (by omega) (by omega) hn1 hn2
      have cS := cell_of_row X _ 0 _ _ _ hsf.1.1.1.1.2
      have cN := cell_of_row X _ 0 _ _ _ hsf.1.1.1.1.1.1
      have cT := cell_of_row X _ 0 _ _ _ kT
      have cK := cell_of_row X _ 0 _ _ _ kK
      have HF := Lib.hid (And.intro (And.intro hsf kT) (And.intro hD hDD))
      clear hsf kT kK hDD hD hn1 hn2 hpre hm hlen
      refine (wpIn_wide (n := 20)).2 ?_
      go_wp2_with fail
      all_goals exact keep.1 D X _ _ _ HF.out
  case rest =>
    rintro D X v1 v2 v3 ⟨⟨hsf, kT⟩, hD, hDD⟩
    have hDl : D < X.heap.size := (Array.getElem?_eq_some_iff.1 hDD).1
    have hDD2 : (X.alloc (.cells #[.int .i64 1] 3)).heap[D]? = some (.deferred (some [])) := (Below.heap_alloc X _ D hDl).trans hDD
    have kT2 := Blk.new X 3 #[.int .i64 1]
    have hsf2 := hsf.alloc (.cells #[.int .i64 1] 3)
    have hBX := hsf.2
    have hwV : w.heap.size + 1 + 1 + 1 < V.heap.size := HV.out.1.1.1.1.1.1.2.lt
    have hwD : w.heap.size + 1 + 1 + 1 < D := Nat.lt_of_lt_of_le hwV hD
    have HWD := Lib.hid hwD
    clear hsf kT hDD HV hwV hwD hD
    obtain ⟨W2, hW2⟩ : ∃ W2, X.alloc (.cells #[.int .i64 1] 3) = W2 := ⟨_, rfl⟩
    dsimp only
    rw [hW2] at hDD2 kT2 hsf2 ⊢
    clear hW2
    have hgX : w.heap.size ≤ X.heap.size := hBX.size
    generalize X.heap.size = gT at kT2 hDl hgX ⊢
    clear hBX
    have cT := cell_of_row W2 _ 0 _ _ _ kT2
    have HY := Lib.hid (And.intro hDD2 (And.intro kT2 (And.intro hsf2 (And.intro hDl hgX))))
    clear hDD2 kT2 hsf2 hDl hgX
    rw [rounds_succ]
    go_wp2_with fail
    obtain ⟨hDD, kT, hsf, hDl, hgX⟩ := HY.out
    have hgK : gT < W2.heap.size := kT.lt
    have hlD : D < W2.heap.size := (Array.getElem?_eq_some_iff.1 hDD).1
    have hAB : Abide W2.heap.size (fun (_ : Unit) X => (SF a b N n x cap gs gA w X ∧ Blk X gT 3 #[.int .i64 1]) ∧ X.heap[D]? = some (.deferred (some []))) := ((SF.abide hsf (Nat.le_refl _)).and (Abide.blk kT.lt _ (fun _ => #[Value.int .i64 1]))).and (Abide.heap hlD (fun _ => .deferred (some [])))
    have hsf1 := hsf.alloc (.cells #[.int .i64 0] 3)
    have kT1 := kT.alloc (.cells #[.int .i64 0] 3)
    have hD1 : (W2.alloc (.cells #[.int .i64 0] 3)).heap[D]? = some (.deferred (some [])) := (Below.heap_alloc W2 _ D hlD).trans hDD
    have kK1 := Blk.new W2 3 #[.int .i64 0]
    clear hsf kT HY cT hDD
    obtain ⟨V2, hV⟩ : ∃ V2, W2.alloc (.cells #[.int .i64 0] 3) = V2 := ⟨_, rfl⟩
    rw [hV] at hsf1 kT1 kK1 hD1 ⊢
    clear hV
    generalize W2.heap.size = gK2 at kK1 hgK hAB hlD ⊢
    have hlV2 : D < V2.heap.size := (Array.getElem?_eq_some_iff.1 hD1).1
    have hwK : w.heap.size ≤ gK2 := by omega
    have HV := Lib.hid (And.intro hsf1 (And.intro kT1 (And.intro kK1 (And.intro hAB (And.intro hD1 (And.intro hwK hlV2))))))
    clear hsf1 kT1 kK1 hAB hD1 hwK hgK hlD
    refine (wpIn_wide (n := 20)).1 ?_
    refine wpIn_rangeB (n := 20) (by omega) (gf := 8) (lb := #[.pointer (some ⟨gA, 0, none⟩), .pointer (some ⟨gA + 1, 0, none⟩)]) rfl (enters_of Try.func8 (by kernel_rfl) rfl)
      (steps_seq (20 - 1) w.heap.size gA (gA + 1) a b (by omega) HA.out HB.out V2 HV.out.1.2.size HV.out.1.1.1.2 HV.out.1.1.2) (Below.refl _ _) HV.out.1.2.size (fun _ => rfl)
      (fun pre X => ((SF a b N n x cap gs gA w X ∧ Blk X gT 3 #[.int .i64 1]) ∧ X.heap[D]? = some (.deferred (some []))) ∧ Blk X gK2 3 #[.int .i64 (pre.length : Nat)])
      (fun _ _ _ => False)
      ((((SF.abide HV.out.1 (Nat.le_refl _)).and (Abide.blk HV.out.2.1.lt _ (fun _ => #[Value.int .i64 1]))).and (Abide.heap hlV2 (fun _ => .deferred (some [])))).and (Abide.blk HV.out.2.2.1.lt _ (fun pre => #[Value.int .i64 ((List.length pre : Nat) : Int)])))
      (fun _ _ _ _ _ hs _ _ => hs)
      (fun _ _ _ => trivial) ⟨⟨⟨HV.out.1, HV.out.2.1⟩, HV.out.2.2.2.2.1⟩, HV.out.2.2.1⟩
      (fun y a' X => ∃ gx, Blk X gx 24 (Wc (eu a b y)) ∧ a' = { tmps := #[W a, W b, Value.int IntKind.i64 n, Value.pointer (some { block := w.heap.size, off := 0 }), Value.pointer (some { block := w.heap.size + 1, off := 0 }), Value.pointer (some { block := w.heap.size + 1 + 1, off := 0 }), Value.pointer (some { block := w.heap.size + 1 + 1 + 1, off := 0 }), Value.pointer (some { block := gs, off := 0 }), Value.func (Fn.func 8) #[] #[Value.pointer (some { block := gA, off := 0 }), Value.pointer (some { block := gA + 1, off := 0 })], Value.pointer (some { block := gT, off := 0 }), Value.pointer (some { block := gK2, off := 0 }), Value.pointer (some { block := gx, off := 0 }), Value.agg #[Value.int IntKind.u64 (lb a 0), Value.int IntKind.u64 (lb a 1), Value.int IntKind.u64 (lb a 2), Value.int IntKind.u64 (lb a 3)], Value.agg #[Value.int IntKind.u64 (lb b 0), Value.int IntKind.u64 (lb b 1), Value.int IntKind.u64 (lb b 2), Value.int IntKind.u64 (lb b 3)], Value.slice x N cap, Value.agg #[Value.int IntKind.u64 (lb a 0), Value.int IntKind.u64 (lb a 1), Value.int IntKind.u64 (lb a 2), Value.int IntKind.u64 (lb a 3)], Value.agg #[Value.int IntKind.u64 (lb b 0), Value.int IntKind.u64 (lb b 1), Value.int IntKind.u64 (lb b 2), Value.int IntKind.u64 (lb b 3)], Value.func (Fn.func 8) #[] #[Value.pointer (some { block := gA, off := 0 }), Value.pointer (some { block := gA + 1, off := 0 })], Value.func (Fn.func 8) #[] #[Value.pointer (some { block := gA, off := 0 }), Value.pointer (some { block := gA + 1, off := 0 })], Value.bool false, Value.int IntKind.i64 1, Value.bool true, Value.int IntKind.i64 0, Value.int IntKind.i64 1, Value.func (Fn.func 8) #[] #[Value.pointer (some { block := gA, off := 0 }), Value.pointer (some { block := gA + 1, off := 0 })], W (eu a b y), undef, undef, undef, undef, undef, undef, undef, undef, undef, undef, undef, undef, undef, undef, undef, undef, undef, undef, undef, undef, undef, Value.int IntKind.i64 0, Value.bool true, Value.bool true, v1, Value.slice x N cap, Value.int IntKind.i64 ↑N, Value.int IntKind.i64 n, v2, v3, Value.bool false, Value.bool false, Value.bool false, Value.int IntKind.i64 0, Value.bool false, Value.bool false, undef, undef, undef, undef, Value.bool false, Value.bool false, Value.int IntKind.i64 0, undef], defers := [] })
      (fun y a' _ X Y row hs hg hr => by obtain ⟨gx, h1, h2⟩ := hs; exact ⟨gx, blk_cells h1 hg (fun r e => (hr r e).2), h2⟩)
      ?assign ?body ?done ?stop
    case stop =>
      rintro D2 c pre X2 hD2 _ h _
      exact h.elim
    case assign =>
      rintro l2 pre y X K _ hi hK
      have HI := Lib.hid hi
      have HK := Lib.hid hK
      clear hi hK
      gi_wp2
      obtain ⟨⟨⟨h1, h2⟩, h3⟩, h4⟩ := HI.out
      exact HK.out _ _ (Kept.alloc _ _ _) ((Below.refl _ X).alloc h1.2.size _) ⟨⟨⟨h1.alloc _, h2.alloc _⟩, (Below.heap_alloc X _ D (Array.getElem?_eq_some_iff.1 h3).1).trans h3⟩, h4.alloc _⟩ ⟨X.heap.size, Blk.new X _ _, rfl⟩
    case body =>
      rintro l2 pre y a' X hl2 ⟨hpre, hnz⟩ hlo ⟨⟨⟨hsf, kT⟩, hDD⟩, kK⟩ ⟨gx, hx, rfl⟩
      have hyN : y < N := Nat.lt_of_not_le fun h => hnz N h HN.out.1
      have hlen : pre.length = y := by rw [hpre, List.length_range]
      rw [hlen] at kK
      obtain ⟨g, rfl, hgx, hcx⟩ := hsf.want hyN
      have w0 := hcx 0 (by omega)
      have w1' := hcx 1 (by omega)
      have w2' := hcx 2 (by omega)
      have w3' := hcx 3 (by omega)
      rw [Nat.add_zero] at w0
      have cS : X.cell? ⟨gs, 0, none⟩ = some (.slice (some ⟨g, 0, none⟩) N cap) := cell_of_row X _ 0 _ _ _ hsf.1.1.1.1.2
      have cK : X.cell? ⟨gK2, 0, none⟩ = some (.int .i64 y) := cell_of_row X _ 0 _ _ _ kK
      have x0 := (cell_of_row X _ 0 _ _ _ hx).trans (wc_get (eu a b y) 0 (by omega))
      have x1 := (cell_of_row X _ 1 _ _ _ hx).trans (wc_get (eu a b y) 1 (by omega))
      have x2 := (cell_of_row X _ 2 _ _ _ hx).trans (wc_get (eu a b y) 2 (by omega))
      have x3 := (cell_of_row X _ 3 _ _ _ hx).trans (wc_get (eu a b y) 3 (by omega))
      have hneq : ∀ w, (binOp .neq 24 (W (eu a b y)) (W (eu a b y))).run Try.prog w = .ok (.bool false) w := fun w => by rw [neqW2]; simp
      have HX0 := Lib.hid (And.intro hsf (And.intro kT (And.intro hDD (And.intro kK (And.intro hpre hlen)))))
      clear hsf kT kK hDD hpre hlen hcx hnz hlo hx
      obtain ⟨e, he⟩ : ∃ e, eu a b y = e := ⟨_, rfl⟩
      rw [he] at w0 w1' w2' w3' x0 x1 x2 x3 hneq ⊢
      clear he
      have hn1 : decide (N ≤ y) = false := decide_eq_false (by omega)
      have hyi : (y : Int) < (N : Int) := by omega
      gi_wp2_with fail
      refine wpIn_region_quiet_round l2 (by kernel_rfl) (by kernel_rfl) (by kernel_rfl) ?_
      repeat (quiet_step_in (fail))
      refine wpQuietIn_nil ?_
      intro _ hw'
      obtain ⟨nq, hw''⟩ := hw'
      subst hw''
      obtain ⟨hsf, kT, hDD, kK, hpre, hlen⟩ := HX0.out
      obtain ⟨Xq, hXq⟩ : ∃ Xq, X.drewN nq = Xq := ⟨_, rfl⟩
      have hGq : X.grownBy Xq none := by rw [← hXq]; exact ⟨rfl, rfl, rfl, Nat.le_refl _, fun _ _ _ => rfl⟩
      have hKX : Kept V2.heap.size X Xq := by rw [← hXq]; exact ⟨Nat.le_refl _, fun _ _ _ => rfl⟩
      have hBX : Below w.heap.size X Xq := by rw [← hXq]; exact below_drewN (Below.refl _ X) nq
      have hq2 := HV.out.2.2.2.1 () X Xq none ⟨⟨hsf, kT⟩, hDD⟩ hGq (fun _ e => by cases e)
      have kKq : Blk Xq gK2 3 #[.int .i64 y] := kK.kept hGq (by simp)
      rw [hXq]
      clear hXq hGq hsf kT kK hDD HX0 cS cK w0 w1' w2' w3' x0 x1 x2 x3 hneq hn1 hyi hgx
      have cT := cell_of_row Xq _ 0 _ _ _ hq2.1.2
      have cK := cell_of_row Xq _ 0 _ _ _ kKq
      have fK := frozen_of_row Xq _ 0 _ _ kKq
      have hlK : gK2 < V2.heap.size := HV.out.2.2.1.lt
      have hw1 : IntKind.i64.wrap ((y : Int) + 1) = (y : Int) + 1 := IntWalk.i64_in _ (by have := eu_few a b N HB.out HN.out.2; omega)
      have hef2 := HV.out.2.2.2.1 () Xq (Xq.setCell ⟨gK2, 0, none⟩ (.int .i64 ((y : Int) + 1))) (some gK2) hq2 (grownBy_setCell' Xq gK2 _) (fun r e => by cases e; exact Nat.le_refl _)
      have kK2 : Blk (Xq.setCell ⟨gK2, 0, none⟩ (.int .i64 ((y : Int) + 1))) gK2 3 #[.int .i64 ((y : Int) + 1)] := heap_setCell_same Xq gK2 0 _ _ (.int .i64 ((y : Int) + 1)) kKq
      have cT2 := cell_of_row _ _ 0 _ _ _ hef2.1.2
      have cK2 := cell_of_row _ _ 0 _ _ _ kK2
      have hl : (((pre ++ [y]).length : Nat) : Int) = (y : Int) + 1 := by simp [hlen]
      have hKs : Kept V2.heap.size X (Xq.setCell ⟨gK2, 0, none⟩ (.int .i64 ((y : Int) + 1))) := hKX.trans (Kept.set Xq (p := ⟨gK2, 0, none⟩) hlK _)
      have hBs : Below w.heap.size X (Xq.setCell ⟨gK2, 0, none⟩ (.int .i64 ((y : Int) + 1))) := hBX.setCell (p := ⟨gK2, 0, none⟩) HV.out.2.2.2.2.2.1 _
      have HX1 := Lib.hid (And.intro hef2 (And.intro kK2 (And.intro hKs (And.intro hBs hl))))
      clear hef2 kK2 hKs hBs hl hq2 kKq hpre hlen hKX hBX
      gi_wp2_with fail
      obtain ⟨h3, hk, hKs, hBs, hl⟩ := HX1.out
      exact ⟨hKs, hBs, h3, by rw [hl]; exact hk⟩
    case done =>
      rintro D2 xs X2 hD2 ⟨N', rfl, hN0, hN1⟩ ⟨⟨⟨hsf, kT⟩, hDD⟩, kK⟩ hDD2
      obtain rfl : N' = N := by
        rcases Nat.lt_trichotomy N' N with h | h | h
        · exact absurd hN0 (HN.out.2 _ h)
        · exact h
        · exact absurd HN.out.1 (hN1 _ h)
      rw [List.length_range] at kK
      have cS := cell_of_row X2 _ 0 _ _ _ hsf.1.1.1.1.2
      have cT := cell_of_row X2 _ 0 _ _ _ kT
      have cK := cell_of_row X2 _ 0 _ _ _ kK
      have hne : D < D2 := Nat.lt_of_lt_of_le hlV2 hD2
      have HZ := Lib.hid (And.intro hsf (And.intro hDD (And.intro hDD2 hne)))
      clear hsf kT kK hDD hDD2 hD2 hne hN0 hN1 HV hlV2
      go_wp2_with fail
      obtain ⟨hsf, hDD, hDD2, hne⟩ := HZ.out
      have kT2 := Blk.new X2 3 #[.int .i64 2]
      have hsf2 := hsf.alloc (.cells #[.int .i64 2] 3)
      have hD1 := (Below.heap_alloc X2 (.cells #[.int .i64 2] 3) D (Array.getElem?_eq_some_iff.1 hDD).1).trans hDD
      have hD2 := (Below.heap_alloc X2 (.cells #[.int .i64 2] 3) D2 (Array.getElem?_eq_some_iff.1 hDD2).1).trans hDD2
      clear hsf hDD hDD2 cS cT cK
      obtain ⟨X3, hX3⟩ : ∃ X3, X2.alloc (.cells #[.int .i64 2] 3) = X3 := ⟨_, rfl⟩
      rw [hX3] at kT2 hsf2 hD1 hD2 ⊢
      clear hX3
      generalize X2.heap.size = gU at kT2 ⊢
      have cT := cell_of_row X3 _ 0 _ _ _ kT2
      have HE := Lib.hid (And.intro hsf2 (And.intro hD1 (And.intro hD2 hne)))
      clear kT2 hsf2 hD1 hD2 hne HZ
      rw [rounds_succ]
      go_wp2_with fail
      refine (works_any _).mono ?_
      rintro e X4 ⟨rfl, h4⟩
      obtain ⟨hef, hD1, hD2, hne⟩ := HE.out
      have hef4 := hef.new h4
      have hE1 := (h4.block D (Array.getElem?_eq_some_iff.1 hD1).1).trans hD1
      have hE2 := (h4.block D2 (Array.getElem?_eq_some_iff.1 hD2).1).trans hD2
      have cR := cell_of_row X4 _ 0 _ _ _ hef4.1.1.1.1.1.2
      have fR := frozen_of_row X4 _ 0 _ _ hef4.1.1.1.1.1.2
      have HG := Lib.hid (And.intro hef4 (And.intro hE1 (And.intro hE2 hne)))
      clear hef hD1 hD2 hne hef4 hE1 hE2 HE h4
      go_wp2
      obtain ⟨hef, hD9, hE9, hne⟩ := HG.out
      have hwD := HWD.out
      have bR9 := hef.1.1.1.1.1.2
      have hDY : (X4.setCell ⟨w.heap.size + 1 + 1 + 1, 0, none⟩ (.bool true)).heap[D]? = some (.deferred (some [])) := (Below.heap_setCell X4 ⟨w.heap.size + 1 + 1 + 1, 0, none⟩ _ D (by simp; omega)).trans hD9
      have hEY : (X4.setCell ⟨w.heap.size + 1 + 1 + 1, 0, none⟩ (.bool true)).heap[D2]? = some (.deferred (some [])) := (Below.heap_setCell X4 ⟨w.heap.size + 1 + 1 + 1, 0, none⟩ _ D2 (by simp; omega)).trans hE9
      have bY : Blk (X4.setCell ⟨w.heap.size + 1 + 1 + 1, 0, none⟩ (.bool true)) (w.heap.size + 1 + 1 + 1) 4 #[.bool true] := heap_setCell_same X4 _ 0 _ _ _ bR9
      have hBY : Below w.heap.size w (X4.setCell ⟨w.heap.size + 1 + 1 + 1, 0, none⟩ (.bool true)) := hef.2.setCell (p := ⟨w.heap.size + 1 + 1 + 1, 0, none⟩) (by simp; omega) _
      obtain ⟨Y, hY⟩ : ∃ Y, X4.setCell ⟨w.heap.size + 1 + 1 + 1, 0, none⟩ (.bool true) = Y := ⟨_, rfl⟩
      rw [hY] at hDY hEY bY hBY ⊢
      clear hY hD9 hE9 bR9 cR fR hef HG
      have hD2' : (Y.putObj D2 (.deferred none)).heap[D]? = some (.deferred (some [])) := (World.putObj_heap_other (by omega)).trans hDY
      have bY2 : Blk (Y.putObj D2 (.deferred none)) (w.heap.size + 1 + 1 + 1) 4 #[.bool true] := bY.kept (grownBy_putObj' Y D2 _) (by intro e; cases e; omega)
      have bY3 : Blk ((Y.putObj D2 (.deferred none)).putObj D (.deferred none)) (w.heap.size + 1 + 1 + 1) 4 #[.bool true] := bY2.kept (grownBy_putObj' _ D _) (by intro e; cases e; omega)
      have q0 := cell_of_row _ _ 0 _ _ _ bY3
      refine ⟨by simp, .inl ⟨_, _, rfl, run_takeDeferred hEY, ?_⟩⟩
      refine ⟨by simp, .inl ⟨_, _, rfl, run_takeDeferred hD2', ?_⟩⟩
      exact ⟨.bool true, by simp [results, Try.results3, go_sem, q0], rfl, (hBY.trans (below_put Y _ (by omega))).trans (below_put _ _ (by omega))⟩
end Go.Proofs.Ythdapmceafnhgaa
