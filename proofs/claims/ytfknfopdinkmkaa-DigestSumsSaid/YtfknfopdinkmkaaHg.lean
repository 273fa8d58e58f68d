/- digest's law: DigestBlocks: the walk. -/
import Derived.Test.YtfknfopdinkmkaaHf
import Derived.Test.YtfknfopdinkmkaaKq
import Derived.Lib.MinMax
import Derived.Lib.QuietBelowIn
namespace Go.Proofs.Ytfknfopdinkmkaa
open Go.RowKit Go.Shelf Go.Sort
attribute [local go_sem] Oper.semAt_some
attribute [local irreducible] Bc pqC pdB pq blP ln Fc jn tot
/-- A drawn region in a round whose callees make memory alone: walked once. -/
theorem wpIn_region_below_round {n : Nat} {P : Program} {id : Nat} {Q : Exit → Act → World → Prop} {a : Act} {w : World} {l : List Oper} (l2 : Nat) (hm : P.follows .mixedOrders = true)
    (hnd : (l.toArray.all fun o => match o.op with | .defer _ => false | _ => true) = true) (hB : Region.lexB .any l.toArray = true)
    (h : wpQuietIn Fence.wide n P l.toArray (fun w' => ∃ p : Regrown, w' = grow (redrawn w p.d) p.os) (fun a' => ∀ w', (∃ p : Regrown, w' = grow (redrawn w p.d) p.os) → Q .normal a' w') l a) : (Code.region id l.toArray true).wpIn (Fence.wide.inRound l2) n P Q a w := by
  simp only [Region.lexB, Bool.and_eq_true] at hB
  refine wpIn_region_round l2 hm hnd (wpAnyIn_of_quiet (C := fun w' => ∃ p : Regrown, w' = grow (redrawn w p.d) p.os) (Q := fun a' => ∀ w', (∃ p : Regrown, w' = grow (redrawn w p.d) p.os) → Q .normal a' w') rfl (fun _ w' hw' h => h w' hw') _ _ _ _ ⟨⟨w.drawn + 1, #[]⟩, by rw [grow_empty]; rfl⟩ ?_)
  have := wpAnyQIn_lex (F := Fence.wide) (n := n) (C := fun w' => ∃ p : Regrown, w' = grow (redrawn w p.d) p.os) (md := .any) hB.1 l 0 (Array.replicate l.toArray.size false) a (by simp) (by simpa using hB.2) (by simpa using h)
  simpa using this
theorem quiet_load_row {F : Fence} {n : Nat} {P : Program} {ops : Array Oper} {C : World → Prop} {Q : Act → Prop} {a : Act} {o : Oper} {rest : List Oper} (ty : TypeId) (x : Operand) (ho : o.op = .load ty x) (b : Nat) (hx : a.eval x = .pointer (some ⟨b, 0, none⟩)) (cs : Array Value)
    (hw : Region.wanted o (yielded ops a.tmps) = true) (hF : ∀ f, F.fn f) (hl : ∀ w, C w → (loadVar ty ⟨b, 0, none⟩).run P w = .ok (.agg cs) w) (h : wpQuietIn F n P ops C Q rest (a.put o.dst (.agg cs))) : wpQuietIn F n P ops C Q (o :: rest) a := by
  refine ⟨fun w _ f _ => hF f, ?_⟩
  rw [if_pos hw]
  refine ⟨.agg cs, fun w hw => ?_, h⟩
  unfold Oper.quietAtIn execOp
  simp only [ho, hx, Instr.loadAt, Instr.sureAddr, Sem.run_bind, Sem.run_pure, Result.andThen_ok, hl w hw]
  exact ⟨rfl, rfl⟩
theorem join_rounds {F : Nat → World → Prop} {FR : Nat → Nat → Value → Value → Value → Act} {WX : World → World} {G : Act → World → Prop} {R : Prop}
    (f : Kept1 (∀ D X v1 v2 v3, F D X → G (FR D X.heap.size v1 v2 v3) (WX X)) → R) (t : ∀ D X v1 v2 v3, F D X → G (FR D X.heap.size v1 v2 v3) (WX X)) : R := f ⟨t⟩
theorem many_done (N : Nat) (n : Int) (h : N = 0 ∨ (N : Int) < n) : min (N : Int) (max 1 n) = N := by omega
theorem many_left (N k : Nat) (n : Int) (h1 : k ≤ N) (h0 : 0 < k) (h2 : n ≤ k) (h3 : k = 1 ∨ (k : Int) - 1 < n) : min (N : Int) (max 1 n) = k := by omega
theorem neq17 (f : Nat → Ln) (w : World) : (binOp .neq 36 (.agg (Fc 17 f)) (.agg (Fc 17 f))).run Try.prog w = .ok (.bool false) w := by
  obtain ⟨i, hi⟩ : ∃ i, Try.prog.info? 27 = some i := Option.isSome_iff_exists.1 (by kernel_rfl)
  have h := run_neq_ints und42 (show Try.prog.underlying 27 = some (.int .u64) by kernel_rfl) hi (by kernel_rfl) (Fc 17 f) (Fc 17 f) (fun j => ln (f j)) (fun j => ln (f j)) (fun j hj => ⟨Fc_get 17 f j hj, Fc_get 17 f j hj⟩) w
  rw [h]
  simp
theorem tot1 (s : Sl) : tot [s] = s.n := by unfold tot tot; rfl
theorem jn1 (s : Sl) {i : Nat} (h : i < s.n) : jn [s] i = s.f i := by unfold jn; rw [if_pos h]
theorem jn1_lt {X : World} {x0 : Option Addr} {B : Nat} {s : Sl} (h : LsB B X x0 [s]) (hB : B ≤ X.heap.size) (i : Nat) : jn [s] i < 256 := jn_lt X x0 [s] (h.at hB).small i
theorem pd1 (s : Sl) (i : Nat) : pdB (tot [s]) (jn [s]) i = pdB s.n s.f i := by
  rw [tot1]
  unfold pdB
  by_cases h : i < s.n
  · rw [if_pos h, if_pos h, jn1 s h]
  · rw [if_neg h, if_neg h]
/-- The x-th block. -/
def bkS (s : Sl) (x : Nat) : Nat → Ln := blP (fun p => pdB (tot [s]) (jn [s]) (136 * x + p)) 136
theorem bkS_eq (s : Sl) (x : Nat) : bkS s x = blP (fun p => pdB s.n s.f (136 * x + p)) 136 := by
  unfold bkS
  congr 1
  funext p
  exact pd1 s _
theorem padded_seq1 (n n₀ A : Nat) (s : Sl) (x0 : Option Addr) (cap0 M : Nat) (hn : 4 ≤ n) (hM : s.n / 136 + 1 = M) (hT : s.n ≤ 1000000) (hg8 : ∀ i, jn [s] i < 256) (w : World) (hn₀ : n₀ ≤ w.heap.size) (hA : Blk w A 45 #[.slice x0 1 cap0]) :
    SeqW n Try.prog 30 #[.pointer (some ⟨A, 0, none⟩)] (fun x : Nat => #[.int .i64 (x : Nat), .agg (Fc 17 (bkS s x))]) n₀ (fun _ X => LsAt X x0 [s]) (fun pre x => pre = List.range x ∧ x < M) (fun xs => xs = List.range M) (fun pre => ∃ k, pre = List.range (k + 1) ∧ k < M) w := fun l J Jx W hW hJ hJx hBd hY h0 => by
  have ht : tot [s] = s.n := tot1 s
  refine (padded_seq n n₀ A [s] x0 cap0 hn (by simp) (by rw [ht]; omega) hg8 w hn₀ hA l J Jx W hW hJ hJx hBd (fun pre x X hg hj => hY pre x X ⟨hg.1, by have := hg.2; rw [ht] at this; omega⟩ hj) h0).mono ?_
  rintro e Y ⟨hv, hr⟩
  refine ⟨hv, ?_⟩
  rcases hr with ⟨xs, hx, hj⟩ | ⟨pre, ⟨k, hp, hk⟩, hj⟩
  · exact .inl ⟨xs, by rw [hx, ht, hM], hj⟩
  · exact .inr ⟨pre, ⟨k, hp, by rw [ht] at hk; omega⟩, hj⟩
attribute [local irreducible] bkS
/-- What stands in the law's boxes all the while. -/
def QF (many : Int) (M g5 gq gb Bd : Nat) (v : Value) (L : Nat) (pd : Nat → Nat) (s : Sl) (w X : World) : Prop :=
  ((((((Blk X w.heap.size 3 #[.int .i64 many] ∧ Blk X (w.heap.size + 1) 4 #[.bool false]) ∧ Blk X g5 22 #[v]) ∧ Blk X (g5 + 1) 3 #[.int .i64 (M : Nat)]) ∧ Blk X gq 45 #[.slice (some ⟨gb, 0, none⟩) 1 1]) ∧ SlB Bd X ⟨v, L, pd⟩) ∧ LsB Bd X (some ⟨gb, 0, none⟩) [s]) ∧ (Below w.heap.size w X ∧ Bd ≤ X.heap.size)
theorem QF.abide {β : Type} {many : Int} {M g5 gq gb Bd : Nat} {v : Value} {L : Nat} {pd : Nat → Nat} {s : Sl} {w X0 : World} {q : Nat} (h : QF many M g5 gq gb Bd v L pd s w X0) (hB : X0.heap.size ≤ q) : Abide q (fun (_ : β) X => QF many M g5 gq gb Bd v L pd s w X) := by
  obtain ⟨⟨⟨⟨⟨⟨⟨h1, h2⟩, h3⟩, h4⟩, h5⟩, h6⟩, h7⟩, h8, h9⟩ := h
  exact ((((((((Abide.blk (Nat.lt_of_lt_of_le h1.lt hB) _ (fun _ => _)).and (Abide.blk (Nat.lt_of_lt_of_le h2.lt hB) _ (fun _ => _))).and (Abide.blk (Nat.lt_of_lt_of_le h3.lt hB) _ (fun _ => _))).and (Abide.blk (Nat.lt_of_lt_of_le h4.lt hB) _ (fun _ => _))).and (Abide.blk (Nat.lt_of_lt_of_le h5.lt hB) _ (fun _ => _))).and (Abide.slB (Nat.le_trans h9 hB) _)).and (Abide.lsB (Nat.le_trans h9 hB) _ _))).and ((Abide.below (Nat.le_refl _) (Nat.le_trans h8.size hB)).and (Abide.size _ _))
theorem QF.alloc {many : Int} {M g5 gq gb Bd : Nat} {v : Value} {L : Nat} {pd : Nat → Nat} {s : Sl} {w X : World} (h : QF many M g5 gq gb Bd v L pd s w X) (o : Obj) : QF many M g5 gq gb Bd v L pd s w (X.alloc o) := (QF.abide (β := Unit) h (Nat.le_refl _)).alloc (s := ()) o h
theorem QF.new {many : Int} {M g5 gq gb Bd : Nat} {v : Value} {L : Nat} {pd : Nat → Nat} {s : Sl} {w X Y : World} (h : QF many M g5 gq gb Bd v L pd s w X) (k : Below X.heap.size X Y) : QF many M g5 gq gb Bd v L pd s w Y := (QF.abide (β := Unit) h (Nat.le_refl _)).new (s := ()) h k

set_option maxRecDepth 100000 in
set_option maxHeartbeats 4000000 in
theorem blocks5_walk (x : Option Addr) (n cap : Nat) (f : Nat → Nat) (many : Int) (hn : n ≤ 500) (w : World)
    (hv : (Value.slice x n cap = .slice none 0 0 ∧ n = 0) ∨ ∃ a c, Value.slice x n cap = .slice (some a) n c) (hs : SlAt w ⟨.slice x n cap, n, f⟩) :
    Calls Try.prog 4 #[.slice x n cap, .int .i64 many] w fun e w' => e = .returned (.bool true) ∧ Below w.heap.size w w' := by
  have hnil : ∀ (p : Value) w, (binOp .eql 34 (.func (.func 30) #[] #[p]) .nilFunc).run Try.prog w = .ok (.bool false) w := fun _ _ => by kernel_rfl
  have HV := Lib.hid hv
  have HS := Lib.hid hs
  have HN := Lib.hid hn
  have hnI : ¬ ((500 : Int) < (n : Int)) := by omega
  obtain ⟨L, hL⟩ : ∃ L, 136 * (n / 136 + 1) = L := ⟨_, rfl⟩
  obtain ⟨M, hM⟩ : ∃ M, n / 136 + 1 = M := ⟨_, rfl⟩
  have hd : (L : Int).tdiv 136 = (M : Int) := by rw [← hL, ← hM]; rw [Int.tdiv_eq_ediv_of_nonneg (by omega)]; omega
  have hwM : IntKind.i64.wrap (M : Int) = (M : Int) := IntWalk.i64_in _ (by omega)
  have HLM := Lib.hid (And.intro hL hM)
  have HPAD := Lib.hid (show ∀ X, SlAt X ⟨.slice x n cap, n, f⟩ → Calls Try.prog 10 #[.slice x n cap] X fun e w' => ∃ g c, e = .returned (.slice (some ⟨g, 0, none⟩) L c) ∧ SlB w'.heap.size w' ⟨.slice (some ⟨g, 0, none⟩) L c, L, pdB n f⟩ ∧ Below X.heap.size X w' from fun X hX =>
    (rpad_any ⟨.slice x n cap, n, f⟩ hv (by show n ≤ 1000000; omega) X hX).mono fun e w' h => by
      obtain ⟨v', h1, h2, ⟨g, c, rfl⟩, h3⟩ := h
      rw [← hL]
      exact ⟨g, c, h1, h2, h3⟩)
  clear hv hs hn hL hM
  refine (callsIn_wide (n := 20)).1 ?_
  refine callsIn_of_wp_marks Try.func4 rfl trivial ?_ rfl
  simp only [Try.ntmps4, List.size_toArray, List.length_cons, List.length_nil, Nat.reduceAdd, Nat.reduceSub, Array.replicate_succ, Array.replicate_zero, List.push_toArray, List.append_toArray, List.nil_append, List.cons_append]
  refine (wpIn_wide (n := 20)).2 ?_
  have k0 : Blk ((w.alloc (.cells #[.int .i64 many] 3)).alloc (.cells #[.bool false] 4)) w.heap.size 3 #[.int .i64 many] := (Blk.new _ _ _).alloc _
  have k1 : Blk ((w.alloc (.cells #[.int .i64 many] 3)).alloc (.cells #[.bool false] 4)) (w.heap.size + 1) 4 #[.bool false] := Blk.newS w _ _ _
  have hW : Below w.heap.size w ((w.alloc (.cells #[.int .i64 many] 3)).alloc (.cells #[.bool false] 4)) := balloc (balloc (Below.refl _ _) _) _
  have H := Lib.hid (And.intro k0 (And.intro k1 hW))
  clear k0 k1 hW
  go_wp2_with fail
  refine (HPAD.out _ ((SlB.new (B := w.heap.size) HS.out (H.out.2.2)).at H.out.2.2.size)).mono ?_
  rintro e w1 ⟨gp, cp, rfl, hs1, h1⟩
  obtain ⟨k0, k1, hW⟩ := H.out
  have k0 := ((k0.keep h1).alloc (.cells #[(.slice (some ⟨gp, 0, none⟩) L cp)] 22)).alloc (.cells #[.int .i64 (M : Nat)] 3)
  have k1 := ((k1.keep h1).alloc (.cells #[(.slice (some ⟨gp, 0, none⟩) L cp)] 22)).alloc (.cells #[.int .i64 (M : Nat)] 3)
  have k5 := (Blk.new w1 22 #[(.slice (some ⟨gp, 0, none⟩) L cp)]).alloc (.cells #[.int .i64 (M : Nat)] 3)
  have k6 := Blk.newS w1 (.cells #[(.slice (some ⟨gp, 0, none⟩) L cp)] 22) 3 #[.int .i64 (M : Nat)]
  have hs2 := (hs1.new (balloc (Below.refl _ _) (.cells #[(.slice (some ⟨gp, 0, none⟩) L cp)] 22))).new (balloc (Below.refl _ _) (.cells #[.int .i64 (M : Nat)] 3))
  have hW2 := balloc (balloc (bstep hW h1) (.cells #[(.slice (some ⟨gp, 0, none⟩) L cp)] 22)) (.cells #[.int .i64 (M : Nat)] 3)
  have hsz := (k1.lt)
  have hz5 : ((w1.alloc (.cells #[(.slice (some ⟨gp, 0, none⟩) L cp)] 22)).alloc (.cells #[.int .i64 (M : Nat)] 3)).heap.size = w1.heap.size + 2 := by simp
  have H2 := Lib.hid (And.intro k0 (And.intro k1 (And.intro k5 (And.intro k6 (And.intro hs2 (And.intro hW2 hz5))))))
  clear k0 k1 k5 k6 hs1 hs2 hW hW2 H h1 hsz hz5
  go_wp2_with fail
  refine (blocks_any ⟨.slice x n cap, n, f⟩ HV.out (by have h := HN.out; show n ≤ 1000000; omega) _ ((SlB.new (B := w.heap.size) HS.out (H2.out.2.2.2.2.2.1)).at H2.out.2.2.2.2.2.1.size)).mono ?_
  rintro e w3 ⟨vb, gb, gq, rfl, hq, hls, h3⟩
  obtain ⟨k0, k1, k5, k6, hs2, hW2, hz5⟩ := H2.out
  have hqf : QF many M w1.heap.size gq gb w3.heap.size (.slice (some ⟨gp, 0, none⟩) L cp) L (pdB n f) ⟨vb, n, f⟩ w w3 :=
    ⟨⟨⟨⟨⟨⟨⟨k0.keep h3, k1.keep h3⟩, k5.keep h3⟩, k6.keep h3⟩, hq⟩, (hs2.mono (by have := h3.size; omega)).new h3⟩, hls⟩, bstep hW2 h3, Nat.le_refl _⟩
  have hqf0 := hqf.alloc (.cells #[.int .i64 0] 3)
  have kT := Blk.new w3 3 #[.int .i64 0]
  have hgT : w.heap.size + 1 < w3.heap.size := hqf.1.1.1.1.1.1.2.lt
  clear hq hls h3 k0 k1 k5 k6 hs2 hW2 hz5 H2 hd hwM HPAD HV HS
  have H3 := Lib.hid (And.intro hqf0 (And.intro kT hgT))
  clear hqf hqf0 kT hgT
  generalize w1.heap.size = g5 at H3 ⊢
  go_wp2_with fail
  obtain ⟨hqf, kT, hgT⟩ := H3.out
  clear H3 hnil
  obtain ⟨V0, hV0⟩ : ∃ V0, w3.alloc (.cells #[.int .i64 0] 3) = V0 := ⟨_, rfl⟩
  rw [hV0] at hqf kT ⊢
  clear hV0
  generalize w3.heap.size = gT at hqf kT hgT ⊢
  have cT := cell_of_row V0 _ 0 _ _ _ kT
  have H := Lib.hid (And.intro hqf (And.intro kT hgT))
  clear hqf kT hgT
  refine wp_loop_rounds 3 ?_
  rw [rounds_succ]
  go_wp2_with fail
  obtain ⟨hqf, kT, hgT⟩ := H.out
  clear H cT
  have hqf1 := hqf.alloc (.cells #[.int .i64 0] 3)
  have kT1 := kT.alloc (.cells #[.int .i64 0] 3)
  have kK1 := Blk.new V0 3 #[.int .i64 0]
  have hgK : gT < V0.heap.size := kT.lt
  have hAB : Abide V0.heap.size (fun (_ : Unit) X => QF many M g5 gq gb gT (.slice (some ⟨gp, 0, none⟩) L cp) L (pdB n f) ⟨vb, n, f⟩ w X ∧ Blk X gT 3 #[.int .i64 0]) := (QF.abide hqf (Nat.le_refl _)).and (Abide.blk kT.lt _ (fun _ => #[Value.int .i64 0]))
  obtain ⟨V, hV⟩ : ∃ V, V0.alloc (.cells #[.int .i64 0] 3) = V := ⟨_, rfl⟩
  rw [hV] at hqf1 kT1 kK1 ⊢
  clear hV hqf kT
  generalize V0.heap.size = gK at kK1 hgK hAB ⊢
  have HV := Lib.hid (And.intro hqf1 (And.intro kT1 (And.intro kK1 (And.intro hAB (And.intro hgK hgT)))))
  clear hqf1 kT1 kK1 hAB hgK hgT
  refine join_rounds (G := ?G) (F := (fun D X => (QF many M g5 gq gb gT (.slice (some ⟨gp, 0, none⟩) L cp) L (pdB n f) ⟨vb, n, f⟩ w X ∧ Blk X gT 3 #[.int .i64 0]) ∧ V.heap.size ≤ D ∧ X.heap[D]? = some (.deferred (some [])))) (FR := fun D q v1 v2 v3 => { tmps := #[Value.slice x n cap, Value.int IntKind.i64 many, undef, Value.pointer (some { block := w.heap.size, off := 0 }), Value.pointer (some { block := w.heap.size + 1, off := 0 }), Value.pointer (some { block := g5, off := 0 }), Value.pointer (some { block := g5 + 1, off := 0 }), Value.func (Fn.func 30) #[] #[Value.pointer (some { block := gq, off := 0 })], Value.pointer (some { block := q, off := 0 }), Value.pointer (some { block := gK, off := 0 }), undef, undef, Value.slice x n cap, Value.int IntKind.i64 (n : Nat), Value.bool false, undef, Value.slice x n cap, Value.slice (some { block := gp, off := 0 }) L cp, Value.slice (some { block := gp, off := 0 }) L cp, Value.int IntKind.i64 (L : Nat), Value.int IntKind.i64 (M : Nat), Value.slice x n cap, Value.func (Fn.func 30) #[] #[Value.pointer (some { block := gq, off := 0 })], Value.func (Fn.func 30) #[] #[Value.pointer (some { block := gq, off := 0 })], Value.bool false, Value.int IntKind.i64 0, Value.bool true, Value.int IntKind.i64 0, Value.int IntKind.i64 1, Value.func (Fn.func 30) #[] #[Value.pointer (some { block := gq, off := 0 })], undef, undef, undef, undef, undef, undef, undef, undef, undef, undef, undef, undef, undef, undef, undef, undef, undef, undef, undef, undef, undef, undef, undef, undef, undef, undef, Value.int IntKind.i64 0, Value.bool true, Value.bool true, v1, Value.int IntKind.i64 (M : Nat), Value.int IntKind.i64 many, Value.int IntKind.i64 (max 1 many), v2, Value.bool false, Value.bool false, Value.bool false, Value.int IntKind.i64 0, Value.bool false, Value.bool false, undef, undef, undef, Value.bool false, Value.bool false, Value.int IntKind.i64 0, undef], defers := [{ target := Target.collected D, args := #[] }] }) (WX := fun X => X.alloc (.cells #[.int .i64 1] 3)) (fun (keep : Kept1 _) => ?ways) ?rest
  case ways =>
    refine (wpIn_wide (n := 20)).1 ?_
    refine wpIn_rangeW (n := 20) (by omega) (gf := 30) (lb := #[.pointer (some ⟨gq, 0, none⟩)]) rfl (enters_of Try.func30 (by kernel_rfl) rfl)
      (padded_seq1 (20 - 1) w.heap.size gq ⟨vb, n, f⟩ (some ⟨gb, 0, none⟩) 1 M (by omega) HLM.out.2 (by have := HN.out; show n ≤ 1000000; omega) (jn1_lt HV.out.1.1.2 HV.out.1.2.2) V HV.out.1.2.1.size HV.out.1.1.1.1.2) (Below.refl _ _) HV.out.1.2.1.size (fun _ => rfl)
      (fun pre X => ((QF many M g5 gq gb gT (.slice (some ⟨gp, 0, none⟩) L cp) L (pdB n f) ⟨vb, n, f⟩ w X ∧ Blk X gT 3 #[.int .i64 0]) ∧ Blk X gK 3 #[.int .i64 (pre.length : Nat)]) ∧ (pre.length = 0 ∨ (pre.length : Int) < many))
      (fun c pre X => ((QF many M g5 gq gb gT (.slice (some ⟨gp, 0, none⟩) L cp) L (pdB n f) ⟨vb, n, f⟩ w X ∧ Blk X gT 3 #[.int .i64 0]) ∧ Blk X gK 3 #[.int .i64 (pre.length : Nat)]) ∧ (c = .exit 2 ∧ many ≤ pre.length ∧ (pre.length = 1 ∨ (pre.length : Int) - 1 < many)))
      ((((QF.abide HV.out.1 (Nat.le_refl _)).and (Abide.blk HV.out.2.1.lt _ (fun _ => #[Value.int .i64 0]))).and (Abide.blk HV.out.2.2.1.lt _ (fun pre => #[Value.int .i64 ((List.length pre : Nat) : Int)]))).and (fun _ _ _ _ hs _ _ => hs))
      (fun _ => (((QF.abide HV.out.1 (Nat.le_refl _)).and (Abide.blk HV.out.2.1.lt _ (fun _ => #[Value.int .i64 0]))).and (Abide.blk HV.out.2.2.1.lt _ (fun pre => #[Value.int .i64 ((List.length pre : Nat) : Int)]))).and (fun _ _ _ _ hs _ _ => hs))
      (fun pre X h => h.1.1.1.1.2.at h.1.1.1.2.2) ⟨⟨⟨HV.out.1, HV.out.2.1⟩, HV.out.2.2.1⟩, .inl rfl⟩
      (fun y a' X => ∃ gx, Blk X gx 36 (Fc 17 (bkS ⟨vb, n, f⟩ y)) ∧ a' = { tmps := #[Value.slice x n cap, Value.int IntKind.i64 many, undef, Value.pointer (some { block := w.heap.size, off := 0 }), Value.pointer (some { block := w.heap.size + 1, off := 0 }), Value.pointer (some { block := g5, off := 0 }), Value.pointer (some { block := g5 + 1, off := 0 }), Value.func (Fn.func 30) #[] #[Value.pointer (some { block := gq, off := 0 })], Value.pointer (some { block := gT, off := 0 }), Value.pointer (some { block := gK, off := 0 }), Value.int IntKind.i64 (y : Nat), Value.pointer (some { block := gx, off := 0 }), Value.slice x n cap, Value.int IntKind.i64 (n : Nat), Value.bool false, undef, Value.slice x n cap, Value.slice (some { block := gp, off := 0 }) L cp, Value.slice (some { block := gp, off := 0 }) L cp, Value.int IntKind.i64 (L : Nat), Value.int IntKind.i64 (M : Nat), Value.slice x n cap, Value.func (Fn.func 30) #[] #[Value.pointer (some { block := gq, off := 0 })], Value.func (Fn.func 30) #[] #[Value.pointer (some { block := gq, off := 0 })], Value.bool false, Value.int IntKind.i64 0, Value.bool true, undef, undef, Value.func (Fn.func 30) #[] #[Value.pointer (some { block := gq, off := 0 })], Value.int IntKind.i64 (y : Nat), Value.agg (Fc 17 (bkS ⟨vb, n, f⟩ y)), undef, undef, undef, undef, undef, undef, undef, undef, undef, undef, undef, undef, undef, undef, undef, undef, undef, undef, undef, undef, undef, undef, undef, undef, undef, undef, undef, undef, undef, undef, undef, undef, undef, undef, undef, undef, undef, undef, undef, undef, undef, undef, undef, undef, undef], defers := [] })
      (fun y a' _ X Y row hs hg hr => by obtain ⟨gx, h1, h2⟩ := hs; exact ⟨gx, blk_cells' h1 hg (fun r e => (hr r e).2), h2⟩)
      ?assign ?body ?done ?stop
    case assign =>
      rintro l2 pre y X K _ hi hK
      have HI := Lib.hid hi
      have HK := Lib.hid hK
      clear hi hK
      have hsz : (Fc 17 (bkS ⟨vb, n, f⟩ y)).size = 17 := Fc_size _ _
      have hst := run_storeCells_new (P := Try.prog) X 36 #[.int .u64 0, .int .u64 0, .int .u64 0, .int .u64 0, .int .u64 0, .int .u64 0, .int .u64 0, .int .u64 0, .int .u64 0, .int .u64 0, .int .u64 0, .int .u64 0, .int .u64 0, .int .u64 0, .int .u64 0, .int .u64 0, .int .u64 0] (Fc 17 (bkS ⟨vb, n, f⟩ y)) (by rw [info42, Fc_size]) (by rw [Fc_size]; rfl) (Fc_one _ _)
      gi_wp2_with fail
      obtain ⟨⟨⟨h1, h2⟩, h3⟩, h4⟩ := HI.out
      exact HK.out _ _ (Kept.alloc _ _ _) ((Below.refl _ X).alloc h1.2.1.size _) ⟨⟨⟨h1.alloc _, h2.alloc _⟩, h3.alloc _⟩, h4⟩ ⟨X.heap.size, Blk.new X _ _, rfl⟩
    case body =>
      rintro l2 pre y a' X hl2 ⟨hpre, hyM⟩ hlo ⟨⟨⟨hqf, kT⟩, kK⟩, hd⟩ ⟨gx, hx, rfl⟩
      have hlen : pre.length = y := by rw [hpre, List.length_range]
      rw [hlen] at kK hd
      have hLM := HLM.out
      have HBK := Lib.hid (show ∀ d os, CallsIn Fence.wide 17 Try.prog 12 #[(.slice (some ⟨gp, 0, none⟩) L cp), .int .i64 (y : Nat)] (grow (redrawn X d) os) fun e w'' => e = .returned (.agg (Fc 17 (bkS ⟨vb, n, f⟩ y))) ∧ ∃ p : Regrown, w'' = grow (redrawn X p.d) p.os from fun d os => by
        refine CallsIn.regrown_of (callsIn_wide.2 ?_)
        rw [bkS_eq]
        have hb := below_regrown X d os
        exact rblock_any ⟨(.slice (some ⟨gp, 0, none⟩) L cp), L, pdB n f⟩ (some ⟨gp, 0, none⟩) cp y rfl (by have := HN.out; show L ≤ 2000000; omega) (by show 136 * y + 136 ≤ L; omega) _ ((hqf.1.1.2.new hb).at (Nat.le_trans hqf.2.2 hb.size)))
      have hld : ∀ d os, (loadVar 36 ⟨gx, 0, none⟩).run Try.prog (grow (redrawn X d) os) = .ok (.agg (Fc 17 (bkS ⟨vb, n, f⟩ y))) (grow (redrawn X d) os) := fun d os => by
        have h := run_loadVar_mid (grow (redrawn X d) os) gx 0 36 (Fc 17 (bkS ⟨vb, n, f⟩ y)).toList _ (hx.keep (below_regrown X d os)).rangeAt und42 rfl (by rw [info42]; show some 17 = some (Fc 17 _).size; rw [Fc_size])
        rwa [Array.toArray_toList] at h
      have cK : ∀ d os, (grow (redrawn X d) os).cell? ⟨gK, 0, none⟩ = some (.int .i64 (y : Nat)) := fun d os => cell_regrown (cell_of_row X _ 0 _ _ _ kK) d os
      have cM : ∀ d os, (grow (redrawn X d) os).cell? ⟨g5 + 1, 0, none⟩ = some (.int .i64 (M : Nat)) := fun d os => cell_regrown (cell_of_row X _ 0 _ _ _ hqf.1.1.1.1.2) d os
      have cP : ∀ d os, (grow (redrawn X d) os).cell? ⟨g5, 0, none⟩ = some ((.slice (some ⟨gp, 0, none⟩) L cp)) := fun d os => cell_regrown (cell_of_row X _ 0 _ _ _ hqf.1.1.1.1.1.2) d os
      have hneq := neq17 (bkS ⟨vb, n, f⟩ y)
      have HX0 := Lib.hid (And.intro hqf (And.intro kT (And.intro kK (And.intro hd (And.intro hpre hlen)))))
      clear hqf kT kK hd hpre hlen hlo hx hLM
      obtain ⟨Fy, hFy⟩ : ∃ Fy, Fc 17 (bkS ⟨vb, n, f⟩ y) = Fy := ⟨_, rfl⟩
      rw [hFy] at HBK hld hneq ⊢
      clear hFy
      have hyI : ¬ ((M : Int) ≤ (y : Int)) := by omega
      have hyd : decide (M ≤ y) = false := decide_eq_false (by omega)
      gi_wp2_with fail
      refine wpIn_region_below_round l2 (by kernel_rfl) (by kernel_rfl) (by kernel_rfl) ?_
      repeat (refine wpQuietIn_step (fun _ _ _ _ => trivial) (fun K hK => ?_); go_simp; first | (refine hK _ ?_; clear hK K) | (apply Exists.intro; refine ⟨fun d => ?_, hK _ ?_⟩; (first | exact HBK.out _ _ | exact ⟨trivial, HBK.out _ _⟩ | exact ⟨fun _ => by omega, HBK.out _ _⟩); clear hK K))
      refine quiet_load_row 36 (.tmp 11) rfl gx rfl Fy (by rfl) (fun _ => trivial) (fun w' hw' => by obtain ⟨p, rfl⟩ := hw'; exact hld p.d p.os) ?_
      simp only [Act.put, List.setIfInBounds_toArray, List.set_cons_zero, List.set_cons_succ]
      repeat (refine wpQuietIn_step (fun _ _ _ _ => trivial) (fun K hK => ?_); go_simp; first | (refine hK _ ?_; clear hK K) | (apply Exists.intro; refine ⟨fun d => ?_, hK _ ?_⟩; (first | exact HBK.out _ _ | exact ⟨trivial, HBK.out _ _⟩ | exact ⟨fun _ => by omega, HBK.out _ _⟩); clear hK K))
      refine wpQuietIn_nil ?_
      intro _ hw'
      obtain ⟨⟨dq, osq⟩, hw''⟩ := hw'
      subst hw''
      have hb := below_regrown X dq osq
      obtain ⟨hqf, kT, kK, hd, hpre, hlen⟩ := HX0.out
      clear HX0 cK cM cP hld hneq HBK hyI hyd
      dsimp only
      obtain ⟨Xq, hXq⟩ : ∃ Xq, grow (redrawn X dq) osq = Xq := ⟨_, rfl⟩
      rw [hXq] at hb ⊢
      have hqfY := hqf.new hb
      have kTY := kT.keep hb
      have kKY := kK.keep hb
      skip
      have hXn : w.heap.size ≤ X.heap.size := hqf.2.1.size
      have hgK := HV.out.2.2.2.2.1
      have hgT := HV.out.2.2.2.2.2
      have hlK : gK < V.heap.size := HV.out.2.2.1.lt
      have hKV : Kept V.heap.size X Xq := Kept.below _ hb
      have hBV : Below w.heap.size X Xq := hb.mono hXn
      clear hqf kT kK hb hXq
      have cK2 := cell_of_row _ _ 0 _ _ _ kKY
      have fK2 := frozen_of_row _ _ 0 _ _ kKY
      have hw1 : IntKind.i64.wrap ((y : Int) + 1) = (y : Int) + 1 := IntWalk.i64_in _ (by have := HLM.out; have := HN.out; omega)
      have hG3 := grownBy_setCell' Xq gK (.int .i64 ((y : Int) + 1))
      have hq3 := HV.out.2.2.2.1 () _ _ (some gK) ⟨hqfY, kTY⟩ hG3 (fun r e => by cases e; exact Nat.le_refl _)
      have kK3 := heap_setCell_same Xq gK 0 _ _ (.int .i64 ((y : Int) + 1)) kKY
      have hK3 := hKV.trans (Kept.grown hG3 (fun r e => by cases e; exact hlK))
      have hB3 := step_world hBV hG3 hXn (by omega)
      have cK3 := cell_of_row _ _ 0 _ _ _ kK3
      have cT3 := cell_of_row _ _ 0 _ _ _ hq3.2
      have cN3 := cell_of_row _ _ 0 _ _ _ hq3.1.1.1.1.1.1.1.1
      have hl : (((pre ++ [y]).length : Nat) : Int) = (y : Int) + 1 := by simp [hlen]
      have HX1 := Lib.hid (And.intro hq3 (And.intro kK3 (And.intro hK3 (And.intro hB3 (And.intro hl hd)))))
      clear hqfY kTY kKY hKV hBV hG3 hq3 kK3 hK3 hB3 hl hpre hlen hgK hgT hlK hd
      by_cases hcn : many ≤ (y : Int) + 1
      · have hcb : decide (many ≤ (y : Int) + 1) = true := decide_eq_true hcn
        gi_wp2_with fail
        obtain ⟨hq3, kK3, hK3, hB3, hl, hd⟩ := HX1.out
        refine ⟨hK3, ⟨hq3, by rw [hl]; exact kK3⟩, rfl, by rw [hl]; exact hcn, ?_⟩
        rcases hd with hd | hd
        · exact .inl (by omega)
        · exact .inr (by rw [hl]; omega)
      · have hcb : decide (many ≤ (y : Int) + 1) = false := decide_eq_false hcn
        gi_wp2_with fail
        obtain ⟨hq3, kK3, hK3, hB3, hl, hd⟩ := HX1.out
        exact ⟨hK3, hB3, ⟨hq3, by rw [hl]; exact kK3⟩, .inr (by rw [hl]; omega)⟩
    case done =>
      rintro D xs X hD rfl ⟨⟨⟨hqf, kT⟩, kK⟩, hd⟩ hDD
      rw [List.length_range] at kK hd
      have hmin := many_done _ many hd
      have cAll := cell_of_row X _ 0 _ _ _ hqf.1.1.1.1.2
      have cN1 := cell_of_row X _ 0 _ _ _ hqf.1.1.1.1.1.1.1
      have cT := cell_of_row X _ 0 _ _ _ kT
      have cK := cell_of_row X _ 0 _ _ _ kK
      have HF := Lib.hid (And.intro (And.intro hqf kT) (And.intro hD hDD))
      clear hqf kT kK hDD hD hd
      go_wp2_with fail
      exact keep.1 D X _ _ .nilFunc HF.out
    case stop =>
      rintro D c pre X hD ⟨m, hpre, hm⟩ ⟨⟨⟨hqf, kT⟩, kK⟩, rfl, hn1, hn2⟩ hDD
      have hlen : pre.length = m + 1 := by rw [hpre, List.length_range]
      rw [hlen] at kK hn1 hn2
      have hmin := many_left M (m + 1) many (by omega) (by omega) hn1 hn2
      have cAll := cell_of_row X _ 0 _ _ _ hqf.1.1.1.1.2
      have cN1 := cell_of_row X _ 0 _ _ _ hqf.1.1.1.1.1.1.1
      have cT := cell_of_row X _ 0 _ _ _ kT
      have cK := cell_of_row X _ 0 _ _ _ kK
      have HF := Lib.hid (And.intro (And.intro hqf kT) (And.intro hD hDD))
      clear hqf kT kK hDD hD hn1 hn2 hpre hm hlen
      refine (wpIn_wide (n := 20)).2 ?_
      go_wp2_with fail
      exact keep.1 D X _ _ .nilFunc HF.out
  case rest =>
    rintro D X v1 v2 v3 ⟨⟨hqf, kT⟩, hD, hDD⟩
    have hDl : D < X.heap.size := (Array.getElem?_eq_some_iff.1 hDD).1
    have hDD2 : (X.alloc (.cells #[.int .i64 1] 3)).heap[D]? = some (.deferred (some [])) := (Below.heap_alloc X _ D hDl).trans hDD
    have kT2 := Blk.new X 3 #[.int .i64 1]
    have hqf2 := hqf.alloc (.cells #[.int .i64 1] 3)
    have hBX := hqf.2.1
    have hwV : gT < V.heap.size := HV.out.2.1.lt
    have hwD : w.heap.size + 1 < D := by have := HV.out.2.2.2.2.2; omega
    have HWD := Lib.hid hwD
    have hgX : gT ≤ X.heap.size := hqf.2.2
    have hgT := HV.out.2.2.2.2.2
    clear hqf kT hDD HV hwV hwD hD
    obtain ⟨W2, hW2⟩ : ∃ W2, X.alloc (.cells #[.int .i64 1] 3) = W2 := ⟨_, rfl⟩
    dsimp only
    rw [hW2] at hDD2 kT2 hqf2 ⊢
    clear hW2
    generalize X.heap.size = gU at kT2 hDl hgX ⊢
    clear hBX
    have cT := cell_of_row W2 _ 0 _ _ _ kT2
    have HY := Lib.hid (And.intro hDD2 (And.intro kT2 (And.intro hqf2 (And.intro hDl (And.intro hgX hgT)))))
    clear hDD2 kT2 hqf2 hDl hgX hgT
    rw [rounds_succ]
    go_wp2_with fail
    obtain ⟨hDD, kT, hqf, hDl, hgX, hgT⟩ := HY.out
    clear HY cT
    have hqf1 := hqf.alloc (.cells #[.int .i64 0] 3)
    have kT1 := kT.alloc (.cells #[.int .i64 0] 3)
    have kK1 := Blk.new W2 3 #[.int .i64 0]
    have hlD : D < W2.heap.size := (Array.getElem?_eq_some_iff.1 hDD).1
    have hD2 : (W2.alloc (.cells #[.int .i64 0] 3)).heap[D]? = some (.deferred (some [])) := (Below.heap_alloc W2 _ D hlD).trans hDD
    have hAB : Abide W2.heap.size (fun (_ : Unit) X => (QF many M g5 gq gb gT (.slice (some ⟨gp, 0, none⟩) L cp) L (pdB n f) ⟨vb, n, f⟩ w X ∧ Blk X gU 3 #[.int .i64 1]) ∧ X.heap[D]? = some (.deferred (some []))) := ((QF.abide hqf (Nat.le_refl _)).and (Abide.blk kT.lt _ (fun _ => #[Value.int .i64 1]))).and (Abide.heap hlD (fun _ => .deferred (some [])))
    have hgK : gU < W2.heap.size := kT.lt
    obtain ⟨Z, hZ⟩ : ∃ Z, W2.alloc (.cells #[.int .i64 0] 3) = Z := ⟨_, rfl⟩
    rw [hZ] at hqf1 kT1 kK1 hD2 ⊢
    clear hZ hqf kT hDD
    generalize W2.heap.size = gK2 at kK1 hAB hgK hlD ⊢
    have hlZ : D < Z.heap.size := (Array.getElem?_eq_some_iff.1 hD2).1
    have HV := Lib.hid (And.intro hqf1 (And.intro kT1 (And.intro kK1 (And.intro hAB (And.intro hD2 (And.intro (show gU < gK2 from hgK) (And.intro (show w.heap.size + 1 < gK2 by omega) hlZ)))))))
    clear hqf1 kT1 kK1 hAB hD2 hgK hlZ hDl hgX hgT hlD
    refine (wpIn_wide (n := 20)).1 ?_
    refine wpIn_rangeW (n := 20) (by omega) (gf := 30) (lb := #[.pointer (some ⟨gq, 0, none⟩)]) rfl (enters_of Try.func30 (by kernel_rfl) rfl)
      (padded_seq1 (20 - 1) w.heap.size gq ⟨vb, n, f⟩ (some ⟨gb, 0, none⟩) 1 M (by omega) HLM.out.2 (by have := HN.out; show n ≤ 1000000; omega) (jn1_lt HV.out.1.1.2 HV.out.1.2.2) Z HV.out.1.2.1.size HV.out.1.1.1.1.2) (Below.refl _ _) HV.out.1.2.1.size (fun _ => rfl)
      (fun pre X => (((QF many M g5 gq gb gT (.slice (some ⟨gp, 0, none⟩) L cp) L (pdB n f) ⟨vb, n, f⟩ w X ∧ Blk X gU 3 #[.int .i64 1]) ∧ X.heap[D]? = some (.deferred (some []))) ∧ Blk X gK2 3 #[.int .i64 (pre.length : Nat)]))
      (fun _ _ _ => False)
      ((((QF.abide HV.out.1 (Nat.le_refl _)).and (Abide.blk HV.out.2.1.lt _ (fun _ => #[Value.int .i64 1]))).and (Abide.heap HV.out.2.2.2.2.2.2.2 (fun _ => .deferred (some [])))).and (Abide.blk HV.out.2.2.1.lt _ (fun pre => #[Value.int .i64 ((List.length pre : Nat) : Int)])))
      (fun _ _ _ _ _ hs _ _ => hs)
      (fun pre X h => h.1.1.1.1.2.at h.1.1.1.2.2) ⟨⟨⟨HV.out.1, HV.out.2.1⟩, HV.out.2.2.2.2.1⟩, HV.out.2.2.1⟩
      (fun y a' X => ∃ gx, Blk X gx 36 (Fc 17 (bkS ⟨vb, n, f⟩ y)) ∧ a' = { tmps := #[Value.slice x n cap, Value.int IntKind.i64 many, undef, Value.pointer (some { block := w.heap.size, off := 0 }), Value.pointer (some { block := w.heap.size + 1, off := 0 }), Value.pointer (some { block := g5, off := 0 }), Value.pointer (some { block := g5 + 1, off := 0 }), Value.func (Fn.func 30) #[] #[Value.pointer (some { block := gq, off := 0 })], Value.pointer (some { block := gU, off := 0 }), Value.pointer (some { block := gK2, off := 0 }), Value.int IntKind.i64 (y : Nat), Value.pointer (some { block := gx, off := 0 }), Value.slice x n cap, Value.int IntKind.i64 (n : Nat), Value.bool false, undef, Value.slice x n cap, Value.slice (some { block := gp, off := 0 }) L cp, Value.slice (some { block := gp, off := 0 }) L cp, Value.int IntKind.i64 (L : Nat), Value.int IntKind.i64 (M : Nat), Value.slice x n cap, Value.func (Fn.func 30) #[] #[Value.pointer (some { block := gq, off := 0 })], Value.func (Fn.func 30) #[] #[Value.pointer (some { block := gq, off := 0 })], Value.bool false, Value.int IntKind.i64 1, Value.bool true, Value.int IntKind.i64 0, Value.int IntKind.i64 1, Value.func (Fn.func 30) #[] #[Value.pointer (some { block := gq, off := 0 })], Value.int IntKind.i64 (y : Nat), Value.agg (Fc 17 (bkS ⟨vb, n, f⟩ y)), undef, undef, undef, undef, undef, undef, undef, undef, undef, undef, undef, undef, undef, undef, undef, undef, undef, undef, undef, undef, undef, undef, undef, undef, Value.int IntKind.i64 0, Value.bool true, Value.bool true, v1, Value.int IntKind.i64 (M : Nat), Value.int IntKind.i64 many, Value.int IntKind.i64 (max 1 many), v2, Value.bool false, Value.bool false, Value.bool false, Value.int IntKind.i64 0, Value.bool false, Value.bool false, undef, undef, undef, Value.bool false, Value.bool false, Value.int IntKind.i64 0, undef], defers := [] })
      (fun y a' _ X Y row hs hg hr => by obtain ⟨gx, h1, h2⟩ := hs; exact ⟨gx, blk_cells' h1 hg (fun r e => (hr r e).2), h2⟩)
      ?assign ?body ?done ?stop
    case stop =>
      rintro D2 c pre X2 hD2 _ h _
      exact h.elim
    case assign =>
      rintro l2 pre y X K _ hi hK
      have HI := Lib.hid hi
      have HK := Lib.hid hK
      clear hi hK
      have hsz : (Fc 17 (bkS ⟨vb, n, f⟩ y)).size = 17 := Fc_size _ _
      have hst := run_storeCells_new (P := Try.prog) X 36 #[.int .u64 0, .int .u64 0, .int .u64 0, .int .u64 0, .int .u64 0, .int .u64 0, .int .u64 0, .int .u64 0, .int .u64 0, .int .u64 0, .int .u64 0, .int .u64 0, .int .u64 0, .int .u64 0, .int .u64 0, .int .u64 0, .int .u64 0] (Fc 17 (bkS ⟨vb, n, f⟩ y)) (by rw [info42, Fc_size]) (by rw [Fc_size]; rfl) (Fc_one _ _)
      gi_wp2_with fail
      obtain ⟨⟨⟨h1, h2⟩, h3⟩, h4⟩ := HI.out
      exact HK.out _ _ (Kept.alloc _ _ _) ((Below.refl _ X).alloc h1.2.1.size _) ⟨⟨⟨h1.alloc _, h2.alloc _⟩, (Below.heap_alloc X _ D (Array.getElem?_eq_some_iff.1 h3).1).trans h3⟩, h4.alloc _⟩ ⟨X.heap.size, Blk.new X _ _, rfl⟩
    case body =>
      rintro l2 pre y a' X hl2 ⟨hpre, hyM⟩ hlo ⟨⟨⟨hqf, kT⟩, hDD⟩, kK⟩ ⟨gx, hx, rfl⟩
      have hlen : pre.length = y := by rw [hpre, List.length_range]
      rw [hlen] at kK
      have hLM := HLM.out
      have HBK := Lib.hid (show ∀ d os, CallsIn Fence.wide 17 Try.prog 12 #[(.slice (some ⟨gp, 0, none⟩) L cp), .int .i64 (y : Nat)] (grow (redrawn X d) os) fun e w'' => e = .returned (.agg (Fc 17 (bkS ⟨vb, n, f⟩ y))) ∧ ∃ p : Regrown, w'' = grow (redrawn X p.d) p.os from fun d os => by
        refine CallsIn.regrown_of (callsIn_wide.2 ?_)
        rw [bkS_eq]
        have hb := below_regrown X d os
        exact rblock_any ⟨(.slice (some ⟨gp, 0, none⟩) L cp), L, pdB n f⟩ (some ⟨gp, 0, none⟩) cp y rfl (by have := HN.out; show L ≤ 2000000; omega) (by show 136 * y + 136 ≤ L; omega) _ ((hqf.1.1.2.new hb).at (Nat.le_trans hqf.2.2 hb.size)))
      have hld : ∀ d os, (loadVar 36 ⟨gx, 0, none⟩).run Try.prog (grow (redrawn X d) os) = .ok (.agg (Fc 17 (bkS ⟨vb, n, f⟩ y))) (grow (redrawn X d) os) := fun d os => by
        have h := run_loadVar_mid (grow (redrawn X d) os) gx 0 36 (Fc 17 (bkS ⟨vb, n, f⟩ y)).toList _ (hx.keep (below_regrown X d os)).rangeAt und42 rfl (by rw [info42]; show some 17 = some (Fc 17 _).size; rw [Fc_size])
        rwa [Array.toArray_toList] at h
      have cK : ∀ d os, (grow (redrawn X d) os).cell? ⟨gK2, 0, none⟩ = some (.int .i64 (y : Nat)) := fun d os => cell_regrown (cell_of_row X _ 0 _ _ _ kK) d os
      have cM : ∀ d os, (grow (redrawn X d) os).cell? ⟨g5 + 1, 0, none⟩ = some (.int .i64 (M : Nat)) := fun d os => cell_regrown (cell_of_row X _ 0 _ _ _ hqf.1.1.1.1.2) d os
      have cP : ∀ d os, (grow (redrawn X d) os).cell? ⟨g5, 0, none⟩ = some ((.slice (some ⟨gp, 0, none⟩) L cp)) := fun d os => cell_regrown (cell_of_row X _ 0 _ _ _ hqf.1.1.1.1.1.2) d os
      have hneq := neq17 (bkS ⟨vb, n, f⟩ y)
      have HX0 := Lib.hid (And.intro hqf (And.intro kT (And.intro kK (And.intro hDD (And.intro hpre hlen)))))
      clear hqf kT kK hDD hpre hlen hlo hx hLM
      obtain ⟨Fy, hFy⟩ : ∃ Fy, Fc 17 (bkS ⟨vb, n, f⟩ y) = Fy := ⟨_, rfl⟩
      rw [hFy] at HBK hld hneq ⊢
      clear hFy
      have hyI : ¬ ((M : Int) ≤ (y : Int)) := by omega
      have hyd : decide (M ≤ y) = false := decide_eq_false (by omega)
      gi_wp2_with fail
      refine wpIn_region_below_round l2 (by kernel_rfl) (by kernel_rfl) (by kernel_rfl) ?_
      repeat (refine wpQuietIn_step (fun _ _ _ _ => trivial) (fun K hK => ?_); go_simp; first | (refine hK _ ?_; clear hK K) | (apply Exists.intro; refine ⟨fun d => ?_, hK _ ?_⟩; (first | exact HBK.out _ _ | exact ⟨trivial, HBK.out _ _⟩ | exact ⟨fun _ => by omega, HBK.out _ _⟩); clear hK K))
      refine quiet_load_row 36 (.tmp 11) rfl gx rfl Fy (by rfl) (fun _ => trivial) (fun w' hw' => by obtain ⟨p, rfl⟩ := hw'; exact hld p.d p.os) ?_
      simp only [Act.put, List.setIfInBounds_toArray, List.set_cons_zero, List.set_cons_succ]
      repeat (refine wpQuietIn_step (fun _ _ _ _ => trivial) (fun K hK => ?_); go_simp; first | (refine hK _ ?_; clear hK K) | (apply Exists.intro; refine ⟨fun d => ?_, hK _ ?_⟩; (first | exact HBK.out _ _ | exact ⟨trivial, HBK.out _ _⟩ | exact ⟨fun _ => by omega, HBK.out _ _⟩); clear hK K))
      refine wpQuietIn_nil ?_
      intro _ hw'
      obtain ⟨⟨dq, osq⟩, hw''⟩ := hw'
      subst hw''
      have hb := below_regrown X dq osq
      obtain ⟨hqf, kT, kK, hDD, hpre, hlen⟩ := HX0.out
      clear HX0 cK cM cP hld hneq HBK hyI hyd
      dsimp only
      obtain ⟨Xq, hXq⟩ : ∃ Xq, grow (redrawn X dq) osq = Xq := ⟨_, rfl⟩
      rw [hXq] at hb ⊢
      have hqfY := hqf.new hb
      have kTY := kT.keep hb
      have kKY := kK.keep hb
      have hDY := (hb.block D (Array.getElem?_eq_some_iff.1 hDD).1).trans hDD
      have hXn : w.heap.size ≤ X.heap.size := hqf.2.1.size
      have hgK := HV.out.2.2.2.2.2.1
      have hgT := HV.out.2.2.2.2.2.2.1
      have hlK : gK2 < Z.heap.size := HV.out.2.2.1.lt
      have hKV : Kept Z.heap.size X Xq := Kept.below _ hb
      have hBV : Below w.heap.size X Xq := hb.mono hXn
      clear hqf kT kK hb hXq hDD
      have cK2 := cell_of_row _ _ 0 _ _ _ kKY
      have fK2 := frozen_of_row _ _ 0 _ _ kKY
      have hw1 : IntKind.i64.wrap ((y : Int) + 1) = (y : Int) + 1 := IntWalk.i64_in _ (by have := HLM.out; have := HN.out; omega)
      have hG3 := grownBy_setCell' Xq gK2 (.int .i64 ((y : Int) + 1))
      have hq3 := HV.out.2.2.2.1 () _ _ (some gK2) ⟨⟨hqfY, kTY⟩, hDY⟩ hG3 (fun r e => by cases e; exact Nat.le_refl _)
      have kK3 := heap_setCell_same Xq gK2 0 _ _ (.int .i64 ((y : Int) + 1)) kKY
      have hK3 := hKV.trans (Kept.grown hG3 (fun r e => by cases e; exact hlK))
      have hB3 := step_world hBV hG3 hXn (by omega)
      have cK3 := cell_of_row _ _ 0 _ _ _ kK3
      have cT3 := cell_of_row _ _ 0 _ _ _ hq3.1.2
      have cN3 := cell_of_row _ _ 0 _ _ _ hq3.1.1.1.1.1.1.1.1.1
      have hl : (((pre ++ [y]).length : Nat) : Int) = (y : Int) + 1 := by simp [hlen]
      have HX1 := Lib.hid (And.intro hq3 (And.intro kK3 (And.intro hK3 (And.intro hB3 (And.intro hl trivial)))))
      clear hqfY kTY kKY hKV hBV hG3 hq3 kK3 hK3 hB3 hl hpre hlen hgK hgT hlK hDY
      gi_wp2_with fail
      obtain ⟨hq3, kK3, hK3, hB3, hl, _⟩ := HX1.out
      exact ⟨hK3, hB3, hq3, by rw [hl]; exact kK3⟩
    case done =>
      rintro D2 xs X2 hD2 rfl ⟨⟨⟨hqf, kT⟩, hDD⟩, kK⟩ hDD2
      rw [List.length_range] at kK
      have cAll := cell_of_row X2 _ 0 _ _ _ hqf.1.1.1.1.2
      have cT := cell_of_row X2 _ 0 _ _ _ kT
      have cK := cell_of_row X2 _ 0 _ _ _ kK
      have hne : D < D2 := Nat.lt_of_lt_of_le HV.out.2.2.2.2.2.2.2 hD2
      have HZ := Lib.hid (And.intro hqf (And.intro hDD (And.intro hDD2 hne)))
      clear hqf kT kK hDD hDD2 hD2 hne HV
      go_wp2_with fail
      obtain ⟨hqf, hDD, hDD2, hne⟩ := HZ.out
      have kT2 := Blk.new X2 3 #[.int .i64 2]
      have hqf2 := hqf.alloc (.cells #[.int .i64 2] 3)
      have hD1 := (Below.heap_alloc X2 (.cells #[.int .i64 2] 3) D (Array.getElem?_eq_some_iff.1 hDD).1).trans hDD
      have hD2 := (Below.heap_alloc X2 (.cells #[.int .i64 2] 3) D2 (Array.getElem?_eq_some_iff.1 hDD2).1).trans hDD2
      clear hqf hDD hDD2 cT cK cAll
      obtain ⟨X3, hX3⟩ : ∃ X3, X2.alloc (.cells #[.int .i64 2] 3) = X3 := ⟨_, rfl⟩
      rw [hX3] at kT2 hqf2 hD1 hD2 ⊢
      clear hX3
      generalize X2.heap.size = gU2 at kT2 ⊢
      have cT := cell_of_row X3 _ 0 _ _ _ kT2
      have HE := Lib.hid (And.intro hqf2 (And.intro hD1 (And.intro hD2 hne)))
      clear kT2 hqf2 hD1 hD2 hne HZ
      rw [rounds_succ]
      go_wp2_with fail
      refine (works_anyK _).mono ?_
      rintro e X4 ⟨rfl, h4⟩
      obtain ⟨hqf, hD1, hD2, hne⟩ := HE.out
      have hqf4 := hqf.new h4
      have hE1 := (h4.block D (Array.getElem?_eq_some_iff.1 hD1).1).trans hD1
      have hE2 := (h4.block D2 (Array.getElem?_eq_some_iff.1 hD2).1).trans hD2
      have bR := hqf4.1.1.1.1.1.1.2
      have cR := cell_of_row X4 _ 0 _ _ _ bR
      have fR := frozen_of_row X4 _ 0 _ _ bR
      have HG := Lib.hid (And.intro bR (And.intro hqf4.2.1 (And.intro hE1 (And.intro hE2 hne))))
      clear hqf hD1 hD2 hne hqf4 hE1 hE2 HE h4 bR
      go_wp2
      obtain ⟨bR9, hB9, hD9, hE9, hne⟩ := HG.out
      have hwD := HWD.out
      have hDY : (X4.setCell ⟨w.heap.size + 1, 0, none⟩ (.bool true)).heap[D]? = some (.deferred (some [])) := (Below.heap_setCell X4 ⟨w.heap.size + 1, 0, none⟩ _ D (by simp; omega)).trans hD9
      have hEY : (X4.setCell ⟨w.heap.size + 1, 0, none⟩ (.bool true)).heap[D2]? = some (.deferred (some [])) := (Below.heap_setCell X4 ⟨w.heap.size + 1, 0, none⟩ _ D2 (by simp; omega)).trans hE9
      have bY : Blk (X4.setCell ⟨w.heap.size + 1, 0, none⟩ (.bool true)) (w.heap.size + 1) 4 #[.bool true] := heap_setCell_same X4 _ 0 _ _ _ bR9
      have hBY : Below w.heap.size w (X4.setCell ⟨w.heap.size + 1, 0, none⟩ (.bool true)) := hB9.setCell (p := ⟨w.heap.size + 1, 0, none⟩) (by simp) _
      obtain ⟨Y, hY⟩ : ∃ Y, X4.setCell ⟨w.heap.size + 1, 0, none⟩ (.bool true) = Y := ⟨_, rfl⟩
      rw [hY] at hDY hEY bY hBY ⊢
      clear hY hD9 hE9 bR9 hB9 cR fR HG
      have hD2' : (Y.putObj D2 (.deferred none)).heap[D]? = some (.deferred (some [])) := (World.putObj_heap_other (by omega)).trans hDY
      have bY2 : Blk (Y.putObj D2 (.deferred none)) (w.heap.size + 1) 4 #[.bool true] := bY.kept (grownBy_putObj' Y D2 _) (by intro e; cases e; omega)
      have bY3 : Blk ((Y.putObj D2 (.deferred none)).putObj D (.deferred none)) (w.heap.size + 1) 4 #[.bool true] := bY2.kept (grownBy_putObj' _ D _) (by intro e; cases e; omega)
      have q0 := cell_of_row _ _ 0 _ _ _ bY3
      refine ⟨by simp, .inl ⟨_, _, rfl, run_takeDeferred hEY, ?_⟩⟩
      refine ⟨by simp, .inl ⟨_, _, rfl, run_takeDeferred hD2', ?_⟩⟩
      exact ⟨.bool true, by simp [results, Try.results4, go_sem, q0], rfl, (hBY.trans (below_put Y _ (by omega))).trans (below_put _ _ (by omega))⟩
end Go.Proofs.Ytfknfopdinkmkaa
