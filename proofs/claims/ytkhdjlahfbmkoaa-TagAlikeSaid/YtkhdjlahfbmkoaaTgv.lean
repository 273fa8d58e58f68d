/- tag: TagAlike's walk. -/
import Derived.Test.YtkhdjlahfbmkoaaTgu
import Derived.Sort.QuietTacIn
import Derived.Deep.QuietTactic
import Derived.BigQuiet
import Derived.Lib.MinMax
namespace Go.Proofs.Ytkhdjlahfbmkoaa
open Go.RowKit Go.Shelf
attribute [local go_sem] Oper.semAt_some
theorem ex_frame {T : Array Value} {D : List Deferred} {F : (Nat → Value) → Act} (h : ({ tmps := T, defers := D } : Act) = F (fun i => T.getD i .nilFunc)) : ∃ y, ({ tmps := T, defers := D } : Act) = F y := ⟨_, h⟩
/-- The last place told. -/
def lastI (pre : List Nat) : Int := match pre.getLast? with
  | some x => x
  | none => -1
theorem lastI_snoc (pre : List Nat) (x : Nat) : lastI (pre ++ [x]) = x := by unfold lastI; simp
theorem lastI_lt (a : List (Nat × Nat)) (up k : Nat) : lastI (knK a up k) < k := by
  unfold lastI
  cases h : (knK a up k).getLast? with
  | none => show (-1 : Int) < k; omega
  | some x =>
    have h1 := List.mem_of_getLast? h
    unfold knK at h1
    have h2 := List.mem_range.1 (List.mem_filter.1 h1).1
    show (x : Int) < k
    omega
theorem knK_le (a : List (Nat × Nat)) (up k : Nat) : (knK a up k).length ≤ k := by
  unfold knK; exact Nat.le_trans (List.length_filter_le _ _) (by simp)
theorem knK_mono (a : List (Nat × Nat)) (up : Nat) {i j : Nat} (h : i ≤ j) : (knK a up i).length ≤ (knK a up j).length := by
  induction j with
  | zero => obtain rfl : i = 0 := by omega
            exact Nat.le_refl _
  | succ j ih =>
    by_cases e : i = j + 1
    · subst e; exact Nat.le_refl _
    · refine Nat.le_trans (ih (by omega)) ?_
      cases hs : sub (cg a j).2 up with
      | true => rw [knK_hit a up j hs]; simp
      | false => rw [knK_miss a up j hs]; exact Nat.le_refl _
/-- What stands in the law's boxes all the while. -/
def TaE (B Bk A : Nat) (va v' : Value) (up : Nat) (a : List (Nat × Nat)) (w X : World) : Prop :=
  (Blk X w.heap.size 22 #[va] ∧ Blk X (w.heap.size + 1 + 1) 4 #[.bool false] ∧ Blk X (w.heap.size + 3) 27 #[.int .u64 (up : Nat)]) ∧ Cs B X va a ∧ KnB A (A + 1) Bk v' up a X ∧ Below w.heap.size w X
theorem TaE.kept {B Bk A up q : Nat} {va v' : Value} {a : List (Nat × Nat)} {w X Y : World} {row : Option Nat} (h : TaE B Bk A va v' up a w X) (hg : X.grownBy Y row) (hq : w.heap.size + 3 < q) (hB : B ≤ q) (hBk : Bk ≤ q) (hA : A + 1 < q) (hr : ∀ r, row = some r → q ≤ r) : TaE B Bk A va v' up a w Y := by
  obtain ⟨⟨h1, h2, h3⟩, h4, ⟨⟨h5, h6⟩, h7⟩, h8⟩ := h
  have hk : ∀ i, i < q → i < X.heap.size → Y.heap[i]? = X.heap[i]? := fun i hi hx => hg.block i hx (fun e => by have := hr i e.symm; omega)
  exact ⟨⟨(hk _ (by omega) h1.lt).trans h1, (hk _ (by omega) h2.lt).trans h2, (hk _ (by omega) h3.lt).trans h3⟩, h4.kept hg.size (fun i hi hx => hk i (by omega) hx), ⟨⟨(hk _ (by omega) h5.lt).trans h5, (hk _ (by omega) h6.lt).trans h6⟩, h7.kept hg.size (fun i hi hx => hk i (by omega) hx)⟩, h8.grown hg (h8.size) (fun r e => by have := hr r e; omega)⟩
theorem TaE.new {B Bk A up : Nat} {va v' : Value} {a : List (Nat × Nat)} {w X Y : World} (h : TaE B Bk A va v' up a w X) (k : Below X.heap.size X Y) : TaE B Bk A va v' up a w Y := by
  obtain ⟨⟨h1, h2, h3⟩, h4, ⟨⟨h5, h6⟩, h7⟩, h8⟩ := h
  exact ⟨⟨h1.keep k, h2.keep k, h3.keep k⟩, h4.new k, ⟨⟨h5.keep k, h6.keep k⟩, h7.new k⟩, bstep h8 k⟩
/-- What stands between two rounds of a turn. -/
def TaI (B Bk A gT gN t : Nat) (mk : Option Nat) (va v' : Value) (up : Nat) (a : List (Nat × Nat)) (w : World) (pre : List Nat) (X : World) : Prop :=
  (TaE B Bk A va v' up a w X ∧ Blk X gT 3 #[.int .i64 (t : Nat)] ∧ Blk X gN 3 #[.int .i64 (pre.length : Nat)] ∧ Blk X (gN + 1) 3 #[.int .i64 (lastI pre)]) ∧ (t = 0 → pre.length < 3) ∧ ∀ d, mk = some d → X.heap[d]? = some (.deferred (some []))
def TaX (B Bk A gT gN t : Nat) (mk : Option Nat) (va v' : Value) (up : Nat) (a : List (Nat × Nat)) (w : World) (c : Code) (pre : List Nat) (X : World) : Prop :=
  (TaE B Bk A va v' up a w X ∧ Blk X gT 3 #[.int .i64 (t : Nat)] ∧ Blk X gN 3 #[.int .i64 (pre.length : Nat)] ∧ Blk X (gN + 1) 3 #[.int .i64 (lastI pre)]) ∧ (c = .exit 4 ∧ t = 0 ∧ pre.length = 3) ∧ ∀ d, mk = some d → X.heap[d]? = some (.deferred (some []))
theorem ta_kept {B Bk A gT gN t q up : Nat} {mk : Option Nat} {va v' : Value} {a : List (Nat × Nat)} {w X Y : World} {pre : List Nat} {row : Option Nat}
    (h : (TaE B Bk A va v' up a w X ∧ Blk X gT 3 #[.int .i64 (t : Nat)] ∧ Blk X gN 3 #[.int .i64 (pre.length : Nat)] ∧ Blk X (gN + 1) 3 #[.int .i64 (lastI pre)])) (hd : ∀ d, mk = some d → X.heap[d]? = some (.deferred (some [])))
    (hg : X.grownBy Y row) (hq : w.heap.size + 3 < q) (hB : B ≤ q) (hBk : Bk ≤ q) (hA : A + 1 < q) (hT : gT < q) (hN : gN + 1 < q) (hm : ∀ d, mk = some d → d < q) (hr : ∀ r, row = some r → q ≤ r) :
    (TaE B Bk A va v' up a w Y ∧ Blk Y gT 3 #[.int .i64 (t : Nat)] ∧ Blk Y gN 3 #[.int .i64 (pre.length : Nat)] ∧ Blk Y (gN + 1) 3 #[.int .i64 (lastI pre)]) ∧ ∀ d, mk = some d → Y.heap[d]? = some (.deferred (some [])) := by
  obtain ⟨h1, h2, h3, h4⟩ := h
  have hk : ∀ i, i < q → i < X.heap.size → Y.heap[i]? = X.heap[i]? := fun i hi hx => hg.block i hx (fun e => by have := hr i e.symm; omega)
  exact ⟨⟨h1.kept hg hq hB hBk hA hr, (hk _ (by omega) h2.lt).trans h2, (hk _ (by omega) h3.lt).trans h3, (hk _ (by omega) h4.lt).trans h4⟩, fun d e => (hk _ (hm d e) (Array.getElem?_eq_some_iff.1 (hd d e)).1).trans (hd d e)⟩
theorem TaI.stay {B Bk A gT gN t D up : Nat} {mk : Option Nat} {va v' : Value} {a : List (Nat × Nat)} {w : World} (hq : w.heap.size + 3 < D) (hB : B ≤ D) (hBk : Bk ≤ D) (hA : A + 1 < D) (hT : gT < D) (hN : gN + 1 < D) (hm : ∀ d, mk = some d → d < D) : StayM (fun k => noM k ∨ k = D ∨ k = D + 1) (TaI B Bk A gT gN t mk va v' up a w) := fun pre X Y row h hw hr => by
  have h1 := ta_kept h.1 h.2.2 hw hq hB hBk hA hT hN hm (fun r e => by rcases hr r e with h | h | h; exact h.elim; omega; omega)
  exact ⟨h1.1, h.2.1, h1.2⟩
theorem TaX.stay {B Bk A gT gN t D up : Nat} {mk : Option Nat} {va v' : Value} {a : List (Nat × Nat)} {w : World} (hq : w.heap.size + 3 < D) (hB : B ≤ D) (hBk : Bk ≤ D) (hA : A + 1 < D) (hT : gT < D) (hN : gN + 1 < D) (hm : ∀ d, mk = some d → d < D) (c : Code) : StayM (fun k => noM k ∨ k = D ∨ k = D + 1) (TaX B Bk A gT gN t mk va v' up a w c) := fun pre X Y row h hw hr => by
  have h1 := ta_kept h.1 h.2.2 hw hq hB hBk hA hT hN hm (fun r e => by rcases hr r e with h | h | h; exact h.elim; omega; omega)
  exact ⟨h1.1, h.2.1, h1.2⟩
/-- The two boxes of a turn, written. -/
theorem ta_set {B Bk A gT gN t q up x : Nat} {mk : Option Nat} {va v' : Value} {a : List (Nat × Nat)} {w X : World} {pre : List Nat}
    (h : (TaE B Bk A va v' up a w X ∧ Blk X gT 3 #[.int .i64 (t : Nat)] ∧ Blk X gN 3 #[.int .i64 (pre.length : Nat)] ∧ Blk X (gN + 1) 3 #[.int .i64 (lastI pre)])) (hd : ∀ d, mk = some d → X.heap[d]? = some (.deferred (some [])))
    (hq : w.heap.size + 3 < q) (hB : B ≤ q) (hBk : Bk ≤ q) (hA : A + 1 < q) (hT : gT < q) (hN : q ≤ gN) (hm : ∀ d, mk = some d → d < q) :
    ((TaE B Bk A va v' up a w ((X.setCell ⟨gN + 1, 0, none⟩ (.int .i64 x)).setCell ⟨gN, 0, none⟩ (.int .i64 ((pre.length : Int) + 1))) ∧ Blk ((X.setCell ⟨gN + 1, 0, none⟩ (.int .i64 x)).setCell ⟨gN, 0, none⟩ (.int .i64 ((pre.length : Int) + 1))) gT 3 #[.int .i64 (t : Nat)] ∧
      Blk ((X.setCell ⟨gN + 1, 0, none⟩ (.int .i64 x)).setCell ⟨gN, 0, none⟩ (.int .i64 ((pre.length : Int) + 1))) gN 3 #[.int .i64 ((pre ++ [x]).length : Nat)] ∧ Blk ((X.setCell ⟨gN + 1, 0, none⟩ (.int .i64 x)).setCell ⟨gN, 0, none⟩ (.int .i64 ((pre.length : Int) + 1))) (gN + 1) 3 #[.int .i64 (lastI (pre ++ [x]))]) ∧
      ∀ d, mk = some d → ((X.setCell ⟨gN + 1, 0, none⟩ (.int .i64 x)).setCell ⟨gN, 0, none⟩ (.int .i64 ((pre.length : Int) + 1))).heap[d]? = some (.deferred (some []))) ∧
      Blk (X.setCell ⟨gN + 1, 0, none⟩ (.int .i64 x)) gN 3 #[.int .i64 (pre.length : Nat)] := by
  obtain ⟨h1, h2, h3, h4⟩ := h
  obtain ⟨X1, hX1⟩ : ∃ X1, X.setCell ⟨gN + 1, 0, none⟩ (.int .i64 x) = X1 := ⟨_, rfl⟩
  have hg1 : X.grownBy X1 (some (gN + 1)) := by rw [← hX1]; exact grown_set' (grown_refl X _) 0 _
  have k4 : Blk X1 (gN + 1) 3 #[.int .i64 x] := by rw [← hX1]; exact heap_setCell_same X (gN + 1) 0 _ _ _ h4
  rw [hX1]
  have j1 := h1.kept hg1 hq hB hBk hA (fun r e => by cases e; omega)
  have j2 : Blk X1 gT 3 #[.int .i64 (t : Nat)] := h2.kept hg1 (by intro e; have := Option.some.inj e; omega)
  have j3 : Blk X1 gN 3 #[.int .i64 (pre.length : Nat)] := h3.kept hg1 (by intro e; have := Option.some.inj e; omega)
  obtain ⟨X2, hX2⟩ : ∃ X2, X1.setCell ⟨gN, 0, none⟩ (.int .i64 ((pre.length : Int) + 1)) = X2 := ⟨_, rfl⟩
  have hg2 : X1.grownBy X2 (some gN) := by rw [← hX2]; exact grown_set' (grown_refl X1 _) 0 _
  have m3 : Blk X2 gN 3 #[.int .i64 ((pre.length : Int) + 1)] := by rw [← hX2]; exact heap_setCell_same X1 gN 0 _ _ _ j3
  rw [hX2]
  refine ⟨⟨⟨j1.kept hg2 hq hB hBk hA (fun r e => by cases e; omega), j2.kept hg2 (by intro e; have := Option.some.inj e; omega), ?_, ?_⟩, fun d e => ?_⟩, j3⟩
  · rw [List.length_append]; exact m3
  · rw [lastI_snoc]; exact k4.kept hg2 (by intro e; have := Option.some.inj e; omega)
  · have hdl := hm d e
    have hd1 := hd d e
    have hx := (Array.getElem?_eq_some_iff.1 hd1).1
    exact (hg2.block d (Nat.lt_of_lt_of_le hx hg1.size) (by intro e; have := Option.some.inj e; omega)).trans ((hg1.block d hx (by intro e; have := Option.some.inj e; omega)).trans hd1)
/-- What cannot panic need not say what follows a panic. -/
def noPanic (Q : Exit → Act → World → Prop) : Exit → Act → World → Prop
  | .panic _, _, _ => False
  | e, a, w => Q e a w
theorem wp_noPanic {P : Program} {c : Code} {Q : Exit → Act → World → Prop} {a : Act} {w : World} (h : c.wp P (noPanic Q) a w) : c.wp P Q a w :=
  wp_mono h fun e a w hq => by cases e <;> first | exact hq | exact hq.elim
/-- A drawn region in a round that reads: walked once. -/
theorem wpIn_region_quiet_round {n : Nat} {P : Program} {id : Nat} {Q : Exit → Act → World → Prop} {a : Act} {w : World} {l : List Oper} (l2 : Nat) (hm : P.follows .mixedOrders = true)
    (hnd : (l.toArray.all fun o => match o.op with | .defer _ => false | _ => true) = true) (hB : Region.lexB .any l.toArray = true)
    (h : wpQuietIn Fence.wide n P l.toArray (fun w' => ∃ n, w' = w.drewN n) (fun a' => ∀ w', (∃ n, w' = w.drewN n) → Q .normal a' w') l a) : (Code.region id l.toArray true).wpIn (Fence.wide.inRound l2) n P Q a w := by
  simp only [Region.lexB, Bool.and_eq_true] at hB
  refine wpIn_region_round l2 hm hnd (wpAnyIn_of_quiet (C := fun w' => ∃ n, w' = w.drewN n) (Q := fun a' => ∀ w', (∃ n, w' = w.drewN n) → Q .normal a' w') rfl (fun _ w' hw' h => h w' hw') _ _ _ _ ⟨1, rfl⟩ ?_)
  have := wpAnyQIn_lex (F := Fence.wide) (n := n) (C := fun w' => ∃ n, w' = w.drewN n) (md := .any) hB.1 l 0 (Array.replicate l.toArray.size false) a (by simp) (by simpa using hB.2) (by simpa using h)
  simpa using this
set_option maxRecDepth 100000 in
set_option maxHeartbeats 8000000 in
theorem talike_walk (B C : Nat) (va vb : Value) (a b : List (Nat × Nat)) (n1 l1 n2 l2 : Nat) (hn1 : n1 < MM) (hl1 : l1 < 2 ^ 64) (hn2 : n2 < MM) (w : World) (hB : B ≤ w.heap.size) (hC : C ≤ w.heap.size) (hv : Cs B w va a) (hu : Cs C w vb b) :
    Calls Try.prog 5 #[va, vb, .agg #[.int .u64 (lb n1 0), .int .u64 (lb n1 1), .int .u64 (lb n1 2), .int .u64 (lb n1 3), .int .u64 (l1 : Nat), .int .u64 (lb n2 0), .int .u64 (lb n2 1), .int .u64 (lb n2 2), .int .u64 (lb n2 3), .int .u64 (l2 : Nat)]] w fun e w' => e = .returned (.bool true) ∧ Below w.heap.size w w' := by
  obtain ⟨X, hX⟩ : ∃ X, ((w.alloc (.cells #[va] 22)).alloc (.cells #[.int .u64 (lb n1 0), .int .u64 (lb n1 1), .int .u64 (lb n1 2), .int .u64 (lb n1 3), .int .u64 (l1 : Nat), .int .u64 (lb n2 0), .int .u64 (lb n2 1), .int .u64 (lb n2 2), .int .u64 (lb n2 3), .int .u64 (l2 : Nat)] 45)).alloc (.cells #[.bool false] 4) = X := ⟨_, rfl⟩
  have hal : Below w.heap.size w X := by rw [← hX]; exact balloc (balloc (balloc (Below.refl w.heap.size w) _) _) _
  have hb0 : Blk X w.heap.size 22 #[va] := by rw [← hX]; exact ((Blk.new w _ _).alloc _).alloc _
  have hb1 : Blk X (w.heap.size + 1) 45 #[.int .u64 (lb n1 0), .int .u64 (lb n1 1), .int .u64 (lb n1 2), .int .u64 (lb n1 3), .int .u64 (l1 : Nat), .int .u64 (lb n2 0), .int .u64 (lb n2 1), .int .u64 (lb n2 2), .int .u64 (lb n2 3), .int .u64 (l2 : Nat)] := by rw [← hX]; exact (Blk.newS w _ _ _).alloc _
  have hb2 : Blk X (w.heap.size + 1 + 1) 4 #[.bool false] := by
    rw [← hX]
    have h := Blk.newS (w.alloc (.cells #[va] 22)) (.cells #[.int .u64 (lb n1 0), .int .u64 (lb n1 1), .int .u64 (lb n1 2), .int .u64 (lb n1 3), .int .u64 (l1 : Nat), .int .u64 (lb n2 0), .int .u64 (lb n2 1), .int .u64 (lb n2 2), .int .u64 (lb n2 3), .int .u64 (l2 : Nat)] 45) 4 #[.bool false]
    rwa [World.size_alloc] at h
  have hsz : X.heap.size = w.heap.size + 3 := by rw [← hX]; simp
  have HX := Lib.hid (And.intro hX (And.intro hal (And.intro hb0 (And.intro hb1 hsz))))
  have HR := Lib.hid hb2
  have hvX := hv.new hal
  have huX := hu.new hal
  obtain ⟨xa, ca, rfl⟩ := hv.is
  obtain ⟨xb, cb, rfl⟩ := hu.is
  have c0 : X.cell? ⟨w.heap.size, 0, none⟩ = some (.slice xa a.length ca) := cell_of_row _ _ 0 _ _ _ hb0
  clear hX hal hb0 hb2 hv hu
  by_cases h1 : 200 < a.length
  · have h1I : (200 : Int) < (a.length : Int) := by omega
    clear h1 hb1 hvX huX hB hC hn1 hl1 hn2 hsz
    refine (callsIn_wide (n := 20)).1 ?_
    refine callsIn_of_wp_marks Try.func5 rfl trivial ?_ rfl
    simp only [Try.ntmps5, List.size_toArray, List.length_cons, List.length_nil, Nat.reduceAdd, Nat.reduceSub, Array.replicate_succ, Array.replicate_zero, List.push_toArray, List.append_toArray, List.nil_append, List.cons_append]
    refine (wpIn_wide (n := 20)).2 ?_
    go_upto_region 1 with fail
    rw [HX.out.1]
    go_wp2_with (first | (go_at_call 7; refine (tworks_any _).mono ?_; rintro e wz ⟨rfl, hz⟩; have hR := HR.out.keep hz; have f0 := frozen_of_row _ _ 0 _ _ hR; have d0 := cell_of_row _ _ 0 _ _ _ hR; have HZ := Lib.hid (And.intro hR hz); clear hz hR) | fail)
    have hT := heap_setCell_same wz (w.heap.size + 1 + 1) 0 _ _ (.bool true) HZ.out.1
    have q0 := cell_of_row _ _ 0 _ _ _ hT
    exact ⟨.bool true, by simp [results, Try.results5, go_sem, q0], rfl, (bstep HX.out.2.1 HZ.out.2).setCell (p := ⟨w.heap.size + 1 + 1, 0, none⟩) (by simp; omega) _⟩
  have h1I : ¬ (200 : Int) < (a.length : Int) := by omega
  by_cases h2 : 200 < b.length
  · have h2I : (200 : Int) < (b.length : Int) := by omega
    clear h1 h2 hb1 hvX huX hB hC hn1 hl1 hn2 hsz
    refine (callsIn_wide (n := 20)).1 ?_
    refine callsIn_of_wp_marks Try.func5 rfl trivial ?_ rfl
    simp only [Try.ntmps5, List.size_toArray, List.length_cons, List.length_nil, Nat.reduceAdd, Nat.reduceSub, Array.replicate_succ, Array.replicate_zero, List.push_toArray, List.append_toArray, List.nil_append, List.cons_append]
    refine (wpIn_wide (n := 20)).2 ?_
    go_upto_region 1 with fail
    rw [HX.out.1]
    go_wp2_with (first | (go_at_call 7; refine (tworks_any _).mono ?_; rintro e wz ⟨rfl, hz⟩; have hR := HR.out.keep hz; have f0 := frozen_of_row _ _ 0 _ _ hR; have d0 := cell_of_row _ _ 0 _ _ _ hR; have HZ := Lib.hid (And.intro hR hz); clear hz hR) | fail)
    have hT := heap_setCell_same wz (w.heap.size + 1 + 1) 0 _ _ (.bool true) HZ.out.1
    have q0 := cell_of_row _ _ 0 _ _ _ hT
    exact ⟨.bool true, by simp [results, Try.results5, go_sem, q0], rfl, (bstep HX.out.2.1 HZ.out.2).setCell (p := ⟨w.heap.size + 1 + 1, 0, none⟩) (by simp; omega) _⟩
  have h2I : ¬ (200 : Int) < (b.length : Int) := by omega
  have c14 : X.cell? ⟨w.heap.size + 1, 4, none⟩ = some (.int .u64 (l1 : Nat)) := cell_of_row _ _ 4 _ _ _ hb1
  obtain ⟨Y, hY⟩ : ∃ Y, X.alloc (.cells #[.int .u64 (l1 : Nat)] 27) = Y := ⟨_, rfl⟩
  have hXY : Below X.heap.size X Y := by rw [← hY]; exact balloc (Below.refl _ _) _
  have hup : Blk Y (w.heap.size + 3) 27 #[.int .u64 (l1 : Nat)] := by rw [← hY, ← hsz]; exact Blk.new X _ _
  have HY := Lib.hid hY
  have d00 : Y.cell? ⟨w.heap.size, 0, none⟩ = some (.int .u64 0) → True := fun _ => trivial
  have e0 : Y.cell? ⟨w.heap.size, 0, none⟩ = some (.slice xa a.length ca) := cell_of_row _ _ 0 _ _ _ (HX.out.2.2.1.keep hXY)
  have e3 : Y.cell? ⟨w.heap.size + 3, 0, none⟩ = some (.int .u64 (l1 : Nat)) := cell_of_row _ _ 0 _ _ _ hup
  have HK := Lib.hid (known_any B l1 _ a (by omega) Y (hvX.new hXY))
  have HM := Lib.hid (And.intro hXY (And.intro hup (And.intro (hvX.new hXY) (And.intro (huX.new hXY) (And.intro (show a.length ≤ 200 by omega) (And.intro (show b.length ≤ 200 by omega) (And.intro hn1 (And.intro hl1 (And.intro hn2 (And.intro hB (And.intro hC hsz)))))))))))
  have hnil : ∀ (p q : Value) w, (binOp .eql 47 (.func (.func 59) #[] #[p, q]) .nilFunc).run Try.prog w = .ok (.bool false) w := fun _ _ _ => by kernel_rfl
  clear hY hXY hup hvX huX hB hC hn1 hl1 hn2 h1 h2 hb1 d00
  refine (callsIn_wide (n := 20)).1 ?_
  refine callsIn_of_wp_marks Try.func5 rfl trivial ?_ rfl
  simp only [Try.ntmps5, List.size_toArray, List.length_cons, List.length_nil, Nat.reduceAdd, Nat.reduceSub, Array.replicate_succ, Array.replicate_zero, List.push_toArray, List.append_toArray, List.nil_append, List.cons_append]
  refine (wpIn_wide (n := 20)).2 ?_
  go_upto_region 1 with fail
  rw [HX.out.1]
  go_upto_region 4 with fail
  rw [HY.out]
  clear c0 c14
  go_upto_region 5 with (first | (go_at_call 24; refine (HK.out).mono ?_; rintro e V ⟨A, v', rfl, hA, hkn, hYV⟩; have HV := Lib.hid (And.intro hA (And.intro hkn hYV)); clear hA hkn hYV) | fail)
  have l0 : ∀ Z, Below V.heap.size V Z → Z.cell? ⟨w.heap.size, 0, none⟩ = some (.slice xa a.length ca) := fun Z h => ((HV.out.2.2.cell (p := ⟨w.heap.size, 0, none⟩) (World.block_lt_of_cell? _ _ e0)).trans e0 |> fun e => ((h.cell (p := ⟨w.heap.size, 0, none⟩) (World.block_lt_of_cell? _ _ e)).trans e))
  have l3 : ∀ Z, Below V.heap.size V Z → Z.cell? ⟨w.heap.size + 3, 0, none⟩ = some (.int .u64 (l1 : Nat)) := fun Z h => ((HV.out.2.2.cell (p := ⟨w.heap.size + 3, 0, none⟩) (World.block_lt_of_cell? _ _ e3)).trans e3 |> fun e => ((h.cell (p := ⟨w.heap.size + 3, 0, none⟩) (World.block_lt_of_cell? _ _ e)).trans e))
  have hbV : Blk V (w.heap.size + 1) 45 #[.int .u64 (lb n1 0), .int .u64 (lb n1 1), .int .u64 (lb n1 2), .int .u64 (lb n1 3), .int .u64 (l1 : Nat), .int .u64 (lb n2 0), .int .u64 (lb n2 1), .int .u64 (lb n2 2), .int .u64 (lb n2 3), .int .u64 (l2 : Nat)] := (HX.out.2.2.2.1.keep HM.out.1).keep HV.out.2.2
  have m0 : ∀ Z, Below V.heap.size V Z → Z.cell? ⟨w.heap.size + 1, 0, none⟩ = some (.int .u64 (lb n1 0)) := fun Z h => cell_of_row _ _ 0 _ _ _ (hbV.keep h)
  have m1 : ∀ Z, Below V.heap.size V Z → Z.cell? ⟨w.heap.size + 1, 1, none⟩ = some (.int .u64 (lb n1 1)) := fun Z h => cell_of_row _ _ 1 _ _ _ (hbV.keep h)
  have m2 : ∀ Z, Below V.heap.size V Z → Z.cell? ⟨w.heap.size + 1, 2, none⟩ = some (.int .u64 (lb n1 2)) := fun Z h => cell_of_row _ _ 2 _ _ _ (hbV.keep h)
  have m3 : ∀ Z, Below V.heap.size V Z → Z.cell? ⟨w.heap.size + 1, 3, none⟩ = some (.int .u64 (lb n1 3)) := fun Z h => cell_of_row _ _ 3 _ _ _ (hbV.keep h)
  have m4 : ∀ Z, Below V.heap.size V Z → Z.cell? ⟨w.heap.size + 1, 4, none⟩ = some (.int .u64 (l1 : Nat)) := fun Z h => cell_of_row _ _ 4 _ _ _ (hbV.keep h)
  have m5 : ∀ Z, Below V.heap.size V Z → Z.cell? ⟨w.heap.size + 1, 5, none⟩ = some (.int .u64 (lb n2 0)) := fun Z h => cell_of_row _ _ 5 _ _ _ (hbV.keep h)
  have m6 : ∀ Z, Below V.heap.size V Z → Z.cell? ⟨w.heap.size + 1, 6, none⟩ = some (.int .u64 (lb n2 1)) := fun Z h => cell_of_row _ _ 6 _ _ _ (hbV.keep h)
  have m7 : ∀ Z, Below V.heap.size V Z → Z.cell? ⟨w.heap.size + 1, 7, none⟩ = some (.int .u64 (lb n2 2)) := fun Z h => cell_of_row _ _ 7 _ _ _ (hbV.keep h)
  have m8 : ∀ Z, Below V.heap.size V Z → Z.cell? ⟨w.heap.size + 1, 8, none⟩ = some (.int .u64 (lb n2 3)) := fun Z h => cell_of_row _ _ 8 _ _ _ (hbV.keep h)
  have m9 : ∀ Z, Below V.heap.size V Z → Z.cell? ⟨w.heap.size + 1, 9, none⟩ = some (.int .u64 (l2 : Nat)) := fun Z h => cell_of_row _ _ 9 _ _ _ (hbV.keep h)
  have hcaV : Cs B V (.slice xa a.length ca) a := HM.out.2.2.1.new HV.out.2.2
  have hcbV : Cs C V (.slice xb b.length cb) b := HM.out.2.2.2.1.new HV.out.2.2
  have hwV : Below w.heap.size w V := bstep (bstep HX.out.2.1 HM.out.1) HV.out.2.2
  have hE0 : TaE B V.heap.size A (.slice xa a.length ca) v' l1 a w V := ⟨⟨(HX.out.2.2.1.keep HM.out.1).keep HV.out.2.2, (HR.out.keep HM.out.1).keep HV.out.2.2, HM.out.2.1.keep HV.out.2.2⟩, hcaV, HV.out.2.1, hwV⟩
  have hYs : Y.heap.size = w.heap.size + 4 := by rw [← HY.out, World.size_alloc]; have := HM.out; omega
  have HB := Lib.hid (And.intro (show w.heap.size + 3 < V.heap.size by have := HV.out.2.2.size; omega) (And.intro HM.out.2.2.2.2.2.2.2.1 (And.intro (show A + 1 < V.heap.size from HV.out.2.1.1.2.lt) (And.intro (show B ≤ V.heap.size by have := HM.out; have := hwV.size; omega) (And.intro (show a.length ≤ 200 by have := HM.out; omega) (show w.heap.size ≤ V.heap.size from hwV.size))))))
  have HA1 := Lib.hid (fun (Z : World) (h : Below V.heap.size V Z) => talike_any B C l1 HB.out.2.1 _ _ a b Z (by have := h.size; have := HB.out; omega) (by have := h.size; have := HB.out; have := HM.out; omega) (hcaV.new h) (hcbV.new h))
  have HA2 := Lib.hid (fun (Z : World) (h : Below V.heap.size V Z) => rtalike_any B C l1 HB.out.2.1 _ _ a b Z (hcaV.new h) (hcbV.new h))
  have HA3 := Lib.hid (fun (Z : World) (h : Below V.heap.size V Z) => talike_any B B l1 HB.out.2.1 _ _ a a Z (by have := h.size; have := HB.out; omega) (by have := h.size; have := HB.out; omega) (hcaV.new h) (hcaV.new h))
  rw [alB_refl] at HA3
  have HS1 := Lib.hid (fun (Z : World) => same_any9 n1 l1 n2 l2 l1 HB.out.2.1 HB.out.2.1 HM.out.2.2.2.2.2.2.1 HM.out.2.2.2.2.2.2.2.2.1 Z)
  have HS2 := Lib.hid (fun (Z : World) => rsame_any9 n1 l1 n2 l2 l1 HB.out.2.1 HB.out.2.1 HM.out.2.2.2.2.2.2.1 HM.out.2.2.2.2.2.2.2.2.1 Z)
  have hB0 : Below V.heap.size V V.drew := (Below.refl _ _).drew
  have HE0 := Lib.hid hE0
  clear hbV hcaV hcbV hwV hE0 hYs e0 e3 HK HV HM HX HR HY hsz
  generalize alB a b l1 = t1 at *
  generalize smB n1 l1 n2 l2 l1 = t2 at *
  refine wp_noPanic ?_
  refine wp_region_held_drew (S := fun Z => Below V.heap.size V Z) (by as_aux_lemma => kernel_rfl) hB0 (fun hHeld => ?_)
  simp only [List.size_toArray, List.length_cons, List.length_nil, Nat.reduceAdd, Array.replicate_succ, Array.replicate_zero, List.push_toArray, List.nil_append, List.cons_append]
  refine wpAnyH_take (i := 0) (oi := { dst := some 31, op := Op.load 22 (Operand.tmp 3), type := 22, pos := "law.go:50", after := #[], guard := none }) (v := ?vq0) rfl (by as_aux_lemma => kernel_rfl) (by as_aux_lemma => kernel_rfl) (by as_aux_lemma => kernel_rfl) (fun _ _ _ h => h) (Or.inl ⟨by rfl, ?yq0⟩) (by assumption) ?rq0
  case yq0 => (intro wS hSw; (try dsimp only at hSw); have q0 := l0 wS hSw; have q3 := l3 wS hSw; have r0 := m0 wS hSw; have r1 := m1 wS hSw; have r2 := m2 wS hSw; have r3 := m3 wS hSw; have r4 := m4 wS hSw; have r5 := m5 wS hSw; have r6 := m6 wS hSw; have r7 := m7 wS hSw; have r8 := m8 wS hSw; have r9 := m9 wS hSw; go_simp <;> with_reducible rfl)
  simp only [Act.put, List.setIfInBounds_toArray, List.set_cons_zero, List.set_cons_succ]
  refine wpAnyH_take (i := 1) (oi := { dst := some 32, op := Op.move (Operand.tmp 1), type := 22, pos := "law.go:50", after := #[], guard := none }) (v := ?vq1) rfl (by as_aux_lemma => kernel_rfl) (by as_aux_lemma => kernel_rfl) (by as_aux_lemma => kernel_rfl) (fun _ _ _ h => h) (Or.inl ⟨by rfl, ?yq1⟩) (by assumption) ?rq1
  case yq1 => (intro wS hSw; (try dsimp only at hSw); have q0 := l0 wS hSw; have q3 := l3 wS hSw; have r0 := m0 wS hSw; have r1 := m1 wS hSw; have r2 := m2 wS hSw; have r3 := m3 wS hSw; have r4 := m4 wS hSw; have r5 := m5 wS hSw; have r6 := m6 wS hSw; have r7 := m7 wS hSw; have r8 := m8 wS hSw; have r9 := m9 wS hSw; go_simp <;> with_reducible rfl)
  simp only [Act.put, List.setIfInBounds_toArray, List.set_cons_zero, List.set_cons_succ]
  refine wpAnyH_take (i := 2) (oi := { dst := some 33, op := Op.load 27 (Operand.tmp 7), type := 27, pos := "law.go:50", after := #[], guard := none }) (v := ?vq2) rfl (by as_aux_lemma => kernel_rfl) (by as_aux_lemma => kernel_rfl) (by as_aux_lemma => kernel_rfl) (fun _ _ _ h => h) (Or.inl ⟨by rfl, ?yq2⟩) (by assumption) ?rq2
  case yq2 => (intro wS hSw; (try dsimp only at hSw); have q0 := l0 wS hSw; have q3 := l3 wS hSw; have r0 := m0 wS hSw; have r1 := m1 wS hSw; have r2 := m2 wS hSw; have r3 := m3 wS hSw; have r4 := m4 wS hSw; have r5 := m5 wS hSw; have r6 := m6 wS hSw; have r7 := m7 wS hSw; have r8 := m8 wS hSw; have r9 := m9 wS hSw; go_simp <;> with_reducible rfl)
  simp only [Act.put, List.setIfInBounds_toArray, List.set_cons_zero, List.set_cons_succ]
  refine wpAnyH_take (i := 4) (oi := { dst := some 35, op := Op.load 22 (Operand.tmp 3), type := 22, pos := "law.go:50", after := #[], guard := none }) (v := ?vq3) rfl (by as_aux_lemma => kernel_rfl) (by as_aux_lemma => kernel_rfl) (by as_aux_lemma => kernel_rfl) (fun _ _ _ h => h) (Or.inl ⟨by rfl, ?yq3⟩) (by assumption) ?rq3
  case yq3 => (intro wS hSw; (try dsimp only at hSw); have q0 := l0 wS hSw; have q3 := l3 wS hSw; have r0 := m0 wS hSw; have r1 := m1 wS hSw; have r2 := m2 wS hSw; have r3 := m3 wS hSw; have r4 := m4 wS hSw; have r5 := m5 wS hSw; have r6 := m6 wS hSw; have r7 := m7 wS hSw; have r8 := m8 wS hSw; have r9 := m9 wS hSw; go_simp <;> with_reducible rfl)
  simp only [Act.put, List.setIfInBounds_toArray, List.set_cons_zero, List.set_cons_succ]
  refine wpAnyH_take (i := 5) (oi := { dst := some 36, op := Op.move (Operand.tmp 1), type := 22, pos := "law.go:50", after := #[], guard := none }) (v := ?vq4) rfl (by as_aux_lemma => kernel_rfl) (by as_aux_lemma => kernel_rfl) (by as_aux_lemma => kernel_rfl) (fun _ _ _ h => h) (Or.inl ⟨by rfl, ?yq4⟩) (by assumption) ?rq4
  case yq4 => (intro wS hSw; (try dsimp only at hSw); have q0 := l0 wS hSw; have q3 := l3 wS hSw; have r0 := m0 wS hSw; have r1 := m1 wS hSw; have r2 := m2 wS hSw; have r3 := m3 wS hSw; have r4 := m4 wS hSw; have r5 := m5 wS hSw; have r6 := m6 wS hSw; have r7 := m7 wS hSw; have r8 := m8 wS hSw; have r9 := m9 wS hSw; go_simp <;> with_reducible rfl)
  simp only [Act.put, List.setIfInBounds_toArray, List.set_cons_zero, List.set_cons_succ]
  refine wpAnyH_take (i := 6) (oi := { dst := some 37, op := Op.load 27 (Operand.tmp 7), type := 27, pos := "law.go:50", after := #[], guard := none }) (v := ?vq5) rfl (by as_aux_lemma => kernel_rfl) (by as_aux_lemma => kernel_rfl) (by as_aux_lemma => kernel_rfl) (fun _ _ _ h => h) (Or.inl ⟨by rfl, ?yq5⟩) (by assumption) ?rq5
  case yq5 => (intro wS hSw; (try dsimp only at hSw); have q0 := l0 wS hSw; have q3 := l3 wS hSw; have r0 := m0 wS hSw; have r1 := m1 wS hSw; have r2 := m2 wS hSw; have r3 := m3 wS hSw; have r4 := m4 wS hSw; have r5 := m5 wS hSw; have r6 := m6 wS hSw; have r7 := m7 wS hSw; have r8 := m8 wS hSw; have r9 := m9 wS hSw; go_simp <;> with_reducible rfl)
  simp only [Act.put, List.setIfInBounds_toArray, List.set_cons_zero, List.set_cons_succ]
  refine wpAnyH_ready (rs := [3]) (by as_aux_lemma => kernel_rfl) (by simp) ?_
  refine AllReadyH.cons (o := { dst := some 34, op := Op.call { callee := Callee.value (Operand.func 25), args := #[Operand.tmp 31, Operand.tmp 32, Operand.tmp 33], argTypes := #[22, 22, 27] }, type := 4, pos := "law.go:50", after := #[{ on := 0, ground := Ground.data }, { on := 1, ground := Ground.data }, { on := 2, ground := Ground.data }], guard := none }) rfl (fun K hK => ?_) (by exact AllReadyH.nil)
  rw [if_pos (by rfl)]
  go_simp
  refine (HA1.out _ hB0).mono ?_
  rintro e u3 ⟨rfl, hu3⟩
  have hS3 : Below V.heap.size V u3 := rstep hu3 hB0
  refine hK.out _ _ (by (try dsimp only); (first | exact hS28 | exact hS22 | exact hS13 | exact hS7 | exact hS3)) (fun hHeld => ?_)
  clear hK K
  simp only [List.setIfInBounds_toArray, List.set_cons_zero, List.set_cons_succ]
  refine wpAnyH_ready (rs := [7]) (by as_aux_lemma => kernel_rfl) (by simp) ?_
  refine AllReadyH.cons (o := { dst := some 38, op := Op.call { callee := Callee.value (Operand.func 26), args := #[Operand.tmp 35, Operand.tmp 36, Operand.tmp 37], argTypes := #[22, 22, 27] }, type := 4, pos := "law.go:50", after := #[{ on := 4, ground := Ground.data }, { on := 5, ground := Ground.data }, { on := 6, ground := Ground.data }, { on := 3, ground := Ground.chain }], guard := none }) rfl (fun K hK => ?_) (by exact AllReadyH.nil)
  rw [if_pos (by rfl)]
  go_simp
  refine (HA2.out _ hS3).mono ?_
  rintro e u7 ⟨rfl, hu7⟩
  have hS7 := rstep hu7 hS3
  refine hK.out _ _ (by (try dsimp only); (first | exact hS28 | exact hS22 | exact hS13 | exact hS7 | exact hS3)) (fun hHeld => ?_)
  clear hK K
  simp only [List.setIfInBounds_toArray, List.set_cons_zero, List.set_cons_succ]
  refine wpAnyH_take (i := 8) (oi := { dst := some 39, op := Op.binOp BinOp.neq 4 (Operand.tmp 34) (Operand.tmp 38) 4, type := 4, pos := "law.go:50", after := #[{ on := 3, ground := Ground.data }, { on := 7, ground := Ground.data }], guard := none }) (v := ?vq8) rfl (by as_aux_lemma => kernel_rfl) (by as_aux_lemma => kernel_rfl) (by as_aux_lemma => kernel_rfl) (fun _ _ _ h => h) (Or.inl ⟨by rfl, ?yq8⟩) (by assumption) ?rq8
  case yq8 => (intro wS hSw; (try dsimp only at hSw); have q0 := l0 wS hSw; have q3 := l3 wS hSw; have r0 := m0 wS hSw; have r1 := m1 wS hSw; have r2 := m2 wS hSw; have r3 := m3 wS hSw; have r4 := m4 wS hSw; have r5 := m5 wS hSw; have r6 := m6 wS hSw; have r7 := m7 wS hSw; have r8 := m8 wS hSw; have r9 := m9 wS hSw; go_simp <;> with_reducible rfl)
  simp only [Act.put, List.setIfInBounds_toArray, List.set_cons_zero, List.set_cons_succ]
  refine wpAnyH_take (i := 9) (oi := { dst := some 40, op := Op.move (Operand.tmp 39), type := 4, pos := "law.go:50", after := #[{ on := 8, ground := Ground.data }, { on := 7, ground := Ground.chain }], guard := none }) (v := ?vq9) rfl (by as_aux_lemma => kernel_rfl) (by as_aux_lemma => kernel_rfl) (by as_aux_lemma => kernel_rfl) (fun _ _ _ h => h) (Or.inl ⟨by rfl, ?yq9⟩) (by assumption) ?rq9
  case yq9 => (intro wS hSw; (try dsimp only at hSw); have q0 := l0 wS hSw; have q3 := l3 wS hSw; have r0 := m0 wS hSw; have r1 := m1 wS hSw; have r2 := m2 wS hSw; have r3 := m3 wS hSw; have r4 := m4 wS hSw; have r5 := m5 wS hSw; have r6 := m6 wS hSw; have r7 := m7 wS hSw; have r8 := m8 wS hSw; have r9 := m9 wS hSw; go_simp <;> with_reducible rfl)
  simp only [Act.put, List.setIfInBounds_toArray, List.set_cons_zero, List.set_cons_succ]
  refine wpAnyH_take (i := 10) (oi := { dst := some 41, op := Op.load 22 (Operand.tmp 3), type := 22, pos := "law.go:50", after := #[{ on := 9, ground := Ground.guard }], guard := some (9, false) }) (v := ?vq10) rfl (by as_aux_lemma => kernel_rfl) (by as_aux_lemma => kernel_rfl) (by as_aux_lemma => kernel_rfl) (fun _ _ _ h => h) (Or.inl ⟨by rfl, ?yq10⟩) (by assumption) ?rq10
  case yq10 => (intro wS hSw; (try dsimp only at hSw); have q0 := l0 wS hSw; have q3 := l3 wS hSw; have r0 := m0 wS hSw; have r1 := m1 wS hSw; have r2 := m2 wS hSw; have r3 := m3 wS hSw; have r4 := m4 wS hSw; have r5 := m5 wS hSw; have r6 := m6 wS hSw; have r7 := m7 wS hSw; have r8 := m8 wS hSw; have r9 := m9 wS hSw; go_simp <;> with_reducible rfl)
  simp only [Act.put, List.setIfInBounds_toArray, List.set_cons_zero, List.set_cons_succ]
  refine wpAnyH_take (i := 11) (oi := { dst := some 42, op := Op.load 22 (Operand.tmp 3), type := 22, pos := "law.go:50", after := #[{ on := 9, ground := Ground.guard }], guard := some (9, false) }) (v := ?vq11) rfl (by as_aux_lemma => kernel_rfl) (by as_aux_lemma => kernel_rfl) (by as_aux_lemma => kernel_rfl) (fun _ _ _ h => h) (Or.inl ⟨by rfl, ?yq11⟩) (by assumption) ?rq11
  case yq11 => (intro wS hSw; (try dsimp only at hSw); have q0 := l0 wS hSw; have q3 := l3 wS hSw; have r0 := m0 wS hSw; have r1 := m1 wS hSw; have r2 := m2 wS hSw; have r3 := m3 wS hSw; have r4 := m4 wS hSw; have r5 := m5 wS hSw; have r6 := m6 wS hSw; have r7 := m7 wS hSw; have r8 := m8 wS hSw; have r9 := m9 wS hSw; go_simp <;> with_reducible rfl)
  simp only [Act.put, List.setIfInBounds_toArray, List.set_cons_zero, List.set_cons_succ]
  refine wpAnyH_take (i := 12) (oi := { dst := some 43, op := Op.load 27 (Operand.tmp 7), type := 27, pos := "law.go:50", after := #[{ on := 9, ground := Ground.guard }], guard := some (9, false) }) (v := ?vq12) rfl (by as_aux_lemma => kernel_rfl) (by as_aux_lemma => kernel_rfl) (by as_aux_lemma => kernel_rfl) (fun _ _ _ h => h) (Or.inl ⟨by rfl, ?yq12⟩) (by assumption) ?rq12
  case yq12 => (intro wS hSw; (try dsimp only at hSw); have q0 := l0 wS hSw; have q3 := l3 wS hSw; have r0 := m0 wS hSw; have r1 := m1 wS hSw; have r2 := m2 wS hSw; have r3 := m3 wS hSw; have r4 := m4 wS hSw; have r5 := m5 wS hSw; have r6 := m6 wS hSw; have r7 := m7 wS hSw; have r8 := m8 wS hSw; have r9 := m9 wS hSw; go_simp <;> with_reducible rfl)
  simp only [Act.put, List.setIfInBounds_toArray, List.set_cons_zero, List.set_cons_succ]
  refine wpAnyH_ready (rs := [13]) (by as_aux_lemma => kernel_rfl) (by simp) ?_
  refine AllReadyH.cons (o := { dst := some 44, op := Op.call { callee := Callee.value (Operand.func 25), args := #[Operand.tmp 41, Operand.tmp 42, Operand.tmp 43], argTypes := #[22, 22, 27] }, type := 4, pos := "law.go:50", after := #[{ on := 10, ground := Ground.data }, { on := 11, ground := Ground.data }, { on := 12, ground := Ground.data }, { on := 9, ground := Ground.chain }, { on := 9, ground := Ground.guard }], guard := some (9, false) }) rfl (fun K hK => ?_) (by exact AllReadyH.nil)
  rw [if_pos (by rfl)]
  go_simp
  refine (HA3.out _ hS7).mono ?_
  rintro e u13 ⟨rfl, hu13⟩
  have hS13 := rstep hu13 hS7
  refine hK.out _ _ (by (try dsimp only); (first | exact hS28 | exact hS22 | exact hS13 | exact hS7 | exact hS3)) (fun hHeld => ?_)
  clear hK K
  simp only [List.setIfInBounds_toArray, List.set_cons_zero, List.set_cons_succ]
  refine wpAnyH_take (i := 14) (oi := { dst := some 45, op := Op.binOp BinOp.neq 4 (Operand.tmp 44) (Operand.const (Value.bool true)) 4, type := 4, pos := "law.go:50", after := #[{ on := 13, ground := Ground.data }, { on := 9, ground := Ground.guard }], guard := some (9, false) }) (v := ?vq14) rfl (by as_aux_lemma => kernel_rfl) (by as_aux_lemma => kernel_rfl) (by as_aux_lemma => kernel_rfl) (fun _ _ _ h => h) (Or.inl ⟨by rfl, ?yq14⟩) (by assumption) ?rq14
  case yq14 => (intro wS hSw; (try dsimp only at hSw); have q0 := l0 wS hSw; have q3 := l3 wS hSw; have r0 := m0 wS hSw; have r1 := m1 wS hSw; have r2 := m2 wS hSw; have r3 := m3 wS hSw; have r4 := m4 wS hSw; have r5 := m5 wS hSw; have r6 := m6 wS hSw; have r7 := m7 wS hSw; have r8 := m8 wS hSw; have r9 := m9 wS hSw; go_simp <;> with_reducible rfl)
  simp only [Act.put, List.setIfInBounds_toArray, List.set_cons_zero, List.set_cons_succ]
  refine wpAnyH_take (i := 15) (oi := { dst := some 46, op := Op.pick (Operand.tmp 40) (Operand.const (Value.bool true)) (Operand.tmp 45), type := 4, pos := "law.go:50", after := #[{ on := 9, ground := Ground.data }, { on := 14, ground := Ground.data }], guard := none }) (v := ?vq15) rfl (by as_aux_lemma => kernel_rfl) (by as_aux_lemma => kernel_rfl) (by as_aux_lemma => kernel_rfl) (fun _ _ _ h => h) (Or.inl ⟨by rfl, ?yq15⟩) (by assumption) ?rq15
  case yq15 => (intro wS hSw; (try dsimp only at hSw); have q0 := l0 wS hSw; have q3 := l3 wS hSw; have r0 := m0 wS hSw; have r1 := m1 wS hSw; have r2 := m2 wS hSw; have r3 := m3 wS hSw; have r4 := m4 wS hSw; have r5 := m5 wS hSw; have r6 := m6 wS hSw; have r7 := m7 wS hSw; have r8 := m8 wS hSw; have r9 := m9 wS hSw; go_simp <;> with_reducible rfl)
  simp only [Act.put, List.setIfInBounds_toArray, List.set_cons_zero, List.set_cons_succ]
  refine wpAnyH_take (i := 16) (oi := { dst := some 47, op := Op.move (Operand.tmp 46), type := 4, pos := "law.go:50", after := #[{ on := 15, ground := Ground.data }, { on := 13, ground := Ground.chain }], guard := none }) (v := ?vq16) rfl (by as_aux_lemma => kernel_rfl) (by as_aux_lemma => kernel_rfl) (by as_aux_lemma => kernel_rfl) (fun _ _ _ h => h) (Or.inl ⟨by rfl, ?yq16⟩) (by assumption) ?rq16
  case yq16 => (intro wS hSw; (try dsimp only at hSw); have q0 := l0 wS hSw; have q3 := l3 wS hSw; have r0 := m0 wS hSw; have r1 := m1 wS hSw; have r2 := m2 wS hSw; have r3 := m3 wS hSw; have r4 := m4 wS hSw; have r5 := m5 wS hSw; have r6 := m6 wS hSw; have r7 := m7 wS hSw; have r8 := m8 wS hSw; have r9 := m9 wS hSw; go_simp <;> with_reducible rfl)
  simp only [Act.put, List.setIfInBounds_toArray, List.set_cons_zero, List.set_cons_succ]
  refine wpAnyH_take (i := 17) (oi := { dst := some 48, op := Op.indexAddr 45 (Operand.tmp 5) (Operand.const (Value.int IntKind.i64 0)), type := 0, pos := "law.go:50", after := #[{ on := 16, ground := Ground.guard }], guard := some (16, false) }) (v := ?vq17) rfl (by as_aux_lemma => kernel_rfl) (by as_aux_lemma => kernel_rfl) (by as_aux_lemma => kernel_rfl) (fun _ _ _ h => h) (Or.inl ⟨by rfl, ?yq17⟩) (by assumption) ?rq17
  case yq17 => (intro wS hSw; (try dsimp only at hSw); have q0 := l0 wS hSw; have q3 := l3 wS hSw; have r0 := m0 wS hSw; have r1 := m1 wS hSw; have r2 := m2 wS hSw; have r3 := m3 wS hSw; have r4 := m4 wS hSw; have r5 := m5 wS hSw; have r6 := m6 wS hSw; have r7 := m7 wS hSw; have r8 := m8 wS hSw; have r9 := m9 wS hSw; go_simp <;> with_reducible rfl)
  simp only [Act.put, List.setIfInBounds_toArray, List.set_cons_zero, List.set_cons_succ]
  refine wpAnyH_take (i := 18) (oi := { dst := some 49, op := Op.load 29 (Operand.tmp 48), type := 29, pos := "law.go:50", after := #[{ on := 17, ground := Ground.data }, { on := 16, ground := Ground.guard }], guard := some (16, false) }) (v := ?vq18) rfl (by as_aux_lemma => kernel_rfl) (by as_aux_lemma => kernel_rfl) (by as_aux_lemma => kernel_rfl) (fun _ _ _ h => h) (Or.inl ⟨by rfl, ?yq18⟩) (by assumption) ?rq18
  case yq18 => (intro wS hSw; (try dsimp only at hSw); have q0 := l0 wS hSw; have q3 := l3 wS hSw; have r0 := m0 wS hSw; have r1 := m1 wS hSw; have r2 := m2 wS hSw; have r3 := m3 wS hSw; have r4 := m4 wS hSw; have r5 := m5 wS hSw; have r6 := m6 wS hSw; have r7 := m7 wS hSw; have r8 := m8 wS hSw; have r9 := m9 wS hSw; go_simp <;> with_reducible rfl)
  simp only [Act.put, List.setIfInBounds_toArray, List.set_cons_zero, List.set_cons_succ]
  refine wpAnyH_take (i := 19) (oi := { dst := some 50, op := Op.indexAddr 45 (Operand.tmp 5) (Operand.const (Value.int IntKind.i64 1)), type := 0, pos := "law.go:50", after := #[{ on := 16, ground := Ground.guard }], guard := some (16, false) }) (v := ?vq19) rfl (by as_aux_lemma => kernel_rfl) (by as_aux_lemma => kernel_rfl) (by as_aux_lemma => kernel_rfl) (fun _ _ _ h => h) (Or.inl ⟨by rfl, ?yq19⟩) (by assumption) ?rq19
  case yq19 => (intro wS hSw; (try dsimp only at hSw); have q0 := l0 wS hSw; have q3 := l3 wS hSw; have r0 := m0 wS hSw; have r1 := m1 wS hSw; have r2 := m2 wS hSw; have r3 := m3 wS hSw; have r4 := m4 wS hSw; have r5 := m5 wS hSw; have r6 := m6 wS hSw; have r7 := m7 wS hSw; have r8 := m8 wS hSw; have r9 := m9 wS hSw; go_simp <;> with_reducible rfl)
  simp only [Act.put, List.setIfInBounds_toArray, List.set_cons_zero, List.set_cons_succ]
  refine wpAnyH_take (i := 20) (oi := { dst := some 51, op := Op.load 29 (Operand.tmp 50), type := 29, pos := "law.go:50", after := #[{ on := 19, ground := Ground.data }, { on := 16, ground := Ground.guard }], guard := some (16, false) }) (v := ?vq20) rfl (by as_aux_lemma => kernel_rfl) (by as_aux_lemma => kernel_rfl) (by as_aux_lemma => kernel_rfl) (fun _ _ _ h => h) (Or.inl ⟨by rfl, ?yq20⟩) (by assumption) ?rq20
  case yq20 => (intro wS hSw; (try dsimp only at hSw); have q0 := l0 wS hSw; have q3 := l3 wS hSw; have r0 := m0 wS hSw; have r1 := m1 wS hSw; have r2 := m2 wS hSw; have r3 := m3 wS hSw; have r4 := m4 wS hSw; have r5 := m5 wS hSw; have r6 := m6 wS hSw; have r7 := m7 wS hSw; have r8 := m8 wS hSw; have r9 := m9 wS hSw; go_simp <;> with_reducible rfl)
  simp only [Act.put, List.setIfInBounds_toArray, List.set_cons_zero, List.set_cons_succ]
  refine wpAnyH_take (i := 21) (oi := { dst := some 52, op := Op.load 27 (Operand.tmp 7), type := 27, pos := "law.go:50", after := #[{ on := 16, ground := Ground.guard }], guard := some (16, false) }) (v := ?vq21) rfl (by as_aux_lemma => kernel_rfl) (by as_aux_lemma => kernel_rfl) (by as_aux_lemma => kernel_rfl) (fun _ _ _ h => h) (Or.inl ⟨by rfl, ?yq21⟩) (by assumption) ?rq21
  case yq21 => (intro wS hSw; (try dsimp only at hSw); have q0 := l0 wS hSw; have q3 := l3 wS hSw; have r0 := m0 wS hSw; have r1 := m1 wS hSw; have r2 := m2 wS hSw; have r3 := m3 wS hSw; have r4 := m4 wS hSw; have r5 := m5 wS hSw; have r6 := m6 wS hSw; have r7 := m7 wS hSw; have r8 := m8 wS hSw; have r9 := m9 wS hSw; go_simp <;> with_reducible rfl)
  simp only [Act.put, List.setIfInBounds_toArray, List.set_cons_zero, List.set_cons_succ]
  refine wpAnyH_take (i := 23) (oi := { dst := some 54, op := Op.indexAddr 45 (Operand.tmp 5) (Operand.const (Value.int IntKind.i64 0)), type := 0, pos := "law.go:50", after := #[{ on := 16, ground := Ground.guard }], guard := some (16, false) }) (v := ?vq22) rfl (by as_aux_lemma => kernel_rfl) (by as_aux_lemma => kernel_rfl) (by as_aux_lemma => kernel_rfl) (fun _ _ _ h => h) (Or.inl ⟨by rfl, ?yq22⟩) (by assumption) ?rq22
  case yq22 => (intro wS hSw; (try dsimp only at hSw); have q0 := l0 wS hSw; have q3 := l3 wS hSw; have r0 := m0 wS hSw; have r1 := m1 wS hSw; have r2 := m2 wS hSw; have r3 := m3 wS hSw; have r4 := m4 wS hSw; have r5 := m5 wS hSw; have r6 := m6 wS hSw; have r7 := m7 wS hSw; have r8 := m8 wS hSw; have r9 := m9 wS hSw; go_simp <;> with_reducible rfl)
  simp only [Act.put, List.setIfInBounds_toArray, List.set_cons_zero, List.set_cons_succ]
  refine wpAnyH_take (i := 24) (oi := { dst := some 55, op := Op.load 29 (Operand.tmp 54), type := 29, pos := "law.go:50", after := #[{ on := 23, ground := Ground.data }, { on := 16, ground := Ground.guard }], guard := some (16, false) }) (v := ?vq23) rfl (by as_aux_lemma => kernel_rfl) (by as_aux_lemma => kernel_rfl) (by as_aux_lemma => kernel_rfl) (fun _ _ _ h => h) (Or.inl ⟨by rfl, ?yq23⟩) (by assumption) ?rq23
  case yq23 => (intro wS hSw; (try dsimp only at hSw); have q0 := l0 wS hSw; have q3 := l3 wS hSw; have r0 := m0 wS hSw; have r1 := m1 wS hSw; have r2 := m2 wS hSw; have r3 := m3 wS hSw; have r4 := m4 wS hSw; have r5 := m5 wS hSw; have r6 := m6 wS hSw; have r7 := m7 wS hSw; have r8 := m8 wS hSw; have r9 := m9 wS hSw; go_simp <;> with_reducible rfl)
  simp only [Act.put, List.setIfInBounds_toArray, List.set_cons_zero, List.set_cons_succ]
  refine wpAnyH_take (i := 25) (oi := { dst := some 56, op := Op.indexAddr 45 (Operand.tmp 5) (Operand.const (Value.int IntKind.i64 1)), type := 0, pos := "law.go:50", after := #[{ on := 16, ground := Ground.guard }], guard := some (16, false) }) (v := ?vq24) rfl (by as_aux_lemma => kernel_rfl) (by as_aux_lemma => kernel_rfl) (by as_aux_lemma => kernel_rfl) (fun _ _ _ h => h) (Or.inl ⟨by rfl, ?yq24⟩) (by assumption) ?rq24
  case yq24 => (intro wS hSw; (try dsimp only at hSw); have q0 := l0 wS hSw; have q3 := l3 wS hSw; have r0 := m0 wS hSw; have r1 := m1 wS hSw; have r2 := m2 wS hSw; have r3 := m3 wS hSw; have r4 := m4 wS hSw; have r5 := m5 wS hSw; have r6 := m6 wS hSw; have r7 := m7 wS hSw; have r8 := m8 wS hSw; have r9 := m9 wS hSw; go_simp <;> with_reducible rfl)
  simp only [Act.put, List.setIfInBounds_toArray, List.set_cons_zero, List.set_cons_succ]
  refine wpAnyH_take (i := 26) (oi := { dst := some 57, op := Op.load 29 (Operand.tmp 56), type := 29, pos := "law.go:50", after := #[{ on := 25, ground := Ground.data }, { on := 16, ground := Ground.guard }], guard := some (16, false) }) (v := ?vq25) rfl (by as_aux_lemma => kernel_rfl) (by as_aux_lemma => kernel_rfl) (by as_aux_lemma => kernel_rfl) (fun _ _ _ h => h) (Or.inl ⟨by rfl, ?yq25⟩) (by assumption) ?rq25
  case yq25 => (intro wS hSw; (try dsimp only at hSw); have q0 := l0 wS hSw; have q3 := l3 wS hSw; have r0 := m0 wS hSw; have r1 := m1 wS hSw; have r2 := m2 wS hSw; have r3 := m3 wS hSw; have r4 := m4 wS hSw; have r5 := m5 wS hSw; have r6 := m6 wS hSw; have r7 := m7 wS hSw; have r8 := m8 wS hSw; have r9 := m9 wS hSw; go_simp <;> with_reducible rfl)
  simp only [Act.put, List.setIfInBounds_toArray, List.set_cons_zero, List.set_cons_succ]
  refine wpAnyH_take (i := 27) (oi := { dst := some 58, op := Op.load 27 (Operand.tmp 7), type := 27, pos := "law.go:50", after := #[{ on := 16, ground := Ground.guard }], guard := some (16, false) }) (v := ?vq26) rfl (by as_aux_lemma => kernel_rfl) (by as_aux_lemma => kernel_rfl) (by as_aux_lemma => kernel_rfl) (fun _ _ _ h => h) (Or.inl ⟨by rfl, ?yq26⟩) (by assumption) ?rq26
  case yq26 => (intro wS hSw; (try dsimp only at hSw); have q0 := l0 wS hSw; have q3 := l3 wS hSw; have r0 := m0 wS hSw; have r1 := m1 wS hSw; have r2 := m2 wS hSw; have r3 := m3 wS hSw; have r4 := m4 wS hSw; have r5 := m5 wS hSw; have r6 := m6 wS hSw; have r7 := m7 wS hSw; have r8 := m8 wS hSw; have r9 := m9 wS hSw; go_simp <;> with_reducible rfl)
  simp only [Act.put, List.setIfInBounds_toArray, List.set_cons_zero, List.set_cons_succ]
  refine wpAnyH_ready (rs := [22]) (by as_aux_lemma => kernel_rfl) (by simp) ?_
  refine AllReadyH.cons (o := { dst := some 53, op := Op.call { callee := Callee.value (Operand.func 27), args := #[Operand.tmp 49, Operand.tmp 51, Operand.tmp 52], argTypes := #[29, 29, 27] }, type := 4, pos := "law.go:50", after := #[{ on := 18, ground := Ground.data }, { on := 20, ground := Ground.data }, { on := 21, ground := Ground.data }, { on := 16, ground := Ground.chain }, { on := 16, ground := Ground.guard }], guard := some (16, false) }) rfl (fun K hK => ?_) (by exact AllReadyH.nil)
  rw [if_pos (by rfl)]
  go_simp
  refine (HS1.out _).mono ?_
  rintro e u22 ⟨rfl, hu22⟩
  have hS22 := rstep hu22 hS13
  refine hK.out _ _ (by (try dsimp only); (first | exact hS28 | exact hS22 | exact hS13 | exact hS7 | exact hS3)) (fun hHeld => ?_)
  clear hK K
  simp only [List.setIfInBounds_toArray, List.set_cons_zero, List.set_cons_succ]
  refine wpAnyH_ready (rs := [28]) (by as_aux_lemma => kernel_rfl) (by simp) ?_
  refine AllReadyH.cons (o := { dst := some 59, op := Op.call { callee := Callee.value (Operand.func 28), args := #[Operand.tmp 55, Operand.tmp 57, Operand.tmp 58], argTypes := #[29, 29, 27] }, type := 4, pos := "law.go:50", after := #[{ on := 24, ground := Ground.data }, { on := 26, ground := Ground.data }, { on := 27, ground := Ground.data }, { on := 22, ground := Ground.chain }, { on := 16, ground := Ground.guard }], guard := some (16, false) }) rfl (fun K hK => ?_) (by exact AllReadyH.nil)
  rw [if_pos (by rfl)]
  go_simp
  refine (HS2.out _).mono ?_
  rintro e u28 ⟨rfl, hu28⟩
  have hS28 := rstep hu28 hS22
  refine hK.out _ _ (by (try dsimp only); (first | exact hS28 | exact hS22 | exact hS13 | exact hS7 | exact hS3)) (fun hHeld => ?_)
  clear hK K
  simp only [List.setIfInBounds_toArray, List.set_cons_zero, List.set_cons_succ]
  refine wpAnyH_take (i := 29) (oi := { dst := some 60, op := Op.binOp BinOp.neq 4 (Operand.tmp 53) (Operand.tmp 59) 4, type := 4, pos := "law.go:50", after := #[{ on := 22, ground := Ground.data }, { on := 28, ground := Ground.data }, { on := 16, ground := Ground.guard }], guard := some (16, false) }) (v := ?vq29) rfl (by as_aux_lemma => kernel_rfl) (by as_aux_lemma => kernel_rfl) (by as_aux_lemma => kernel_rfl) (fun _ _ _ h => h) (Or.inl ⟨by rfl, ?yq29⟩) (by assumption) ?rq29
  case yq29 => (intro wS hSw; (try dsimp only at hSw); have q0 := l0 wS hSw; have q3 := l3 wS hSw; have r0 := m0 wS hSw; have r1 := m1 wS hSw; have r2 := m2 wS hSw; have r3 := m3 wS hSw; have r4 := m4 wS hSw; have r5 := m5 wS hSw; have r6 := m6 wS hSw; have r7 := m7 wS hSw; have r8 := m8 wS hSw; have r9 := m9 wS hSw; go_simp <;> with_reducible rfl)
  simp only [Act.put, List.setIfInBounds_toArray, List.set_cons_zero, List.set_cons_succ]
  refine wpAnyH_take (i := 30) (oi := { dst := some 61, op := Op.pick (Operand.tmp 47) (Operand.const (Value.bool true)) (Operand.tmp 60), type := 4, pos := "law.go:50", after := #[{ on := 16, ground := Ground.data }, { on := 29, ground := Ground.data }], guard := none }) (v := ?vq30) rfl (by as_aux_lemma => kernel_rfl) (by as_aux_lemma => kernel_rfl) (by as_aux_lemma => kernel_rfl) (fun _ _ _ h => h) (Or.inl ⟨by rfl, ?yq30⟩) (by assumption) ?rq30
  case yq30 => (intro wS hSw; (try dsimp only at hSw); have q0 := l0 wS hSw; have q3 := l3 wS hSw; have r0 := m0 wS hSw; have r1 := m1 wS hSw; have r2 := m2 wS hSw; have r3 := m3 wS hSw; have r4 := m4 wS hSw; have r5 := m5 wS hSw; have r6 := m6 wS hSw; have r7 := m7 wS hSw; have r8 := m8 wS hSw; have r9 := m9 wS hSw; go_simp <;> with_reducible rfl)
  simp only [Act.put, List.setIfInBounds_toArray, List.set_cons_zero, List.set_cons_succ]
  refine wpAnyH_take (i := 31) (oi := { dst := some 62, op := Op.move (Operand.tmp 61), type := 4, pos := "law.go:50", after := #[{ on := 30, ground := Ground.data }, { on := 28, ground := Ground.chain }], guard := none }) (v := ?vq31) rfl (by as_aux_lemma => kernel_rfl) (by as_aux_lemma => kernel_rfl) (by as_aux_lemma => kernel_rfl) (fun _ _ _ h => h) (Or.inl ⟨by rfl, ?yq31⟩) (by assumption) ?rq31
  case yq31 => (intro wS hSw; (try dsimp only at hSw); have q0 := l0 wS hSw; have q3 := l3 wS hSw; have r0 := m0 wS hSw; have r1 := m1 wS hSw; have r2 := m2 wS hSw; have r3 := m3 wS hSw; have r4 := m4 wS hSw; have r5 := m5 wS hSw; have r6 := m6 wS hSw; have r7 := m7 wS hSw; have r8 := m8 wS hSw; have r9 := m9 wS hSw; go_simp <;> with_reducible rfl)
  simp only [Act.put, List.setIfInBounds_toArray, List.set_cons_zero, List.set_cons_succ]
  refine wpAnyH_take (i := 32) (oi := { dst := some 63, op := Op.move (Operand.tmp 8), type := 47, pos := "law.go:50", after := #[{ on := 31, ground := Ground.guard }], guard := some (31, false) }) (v := ?vq32) rfl (by as_aux_lemma => kernel_rfl) (by as_aux_lemma => kernel_rfl) (by as_aux_lemma => kernel_rfl) (fun _ _ _ h => h) (Or.inl ⟨by rfl, ?yq32⟩) (by assumption) ?rq32
  case yq32 => (intro wS hSw; (try dsimp only at hSw); have q0 := l0 wS hSw; have q3 := l3 wS hSw; have r0 := m0 wS hSw; have r1 := m1 wS hSw; have r2 := m2 wS hSw; have r3 := m3 wS hSw; have r4 := m4 wS hSw; have r5 := m5 wS hSw; have r6 := m6 wS hSw; have r7 := m7 wS hSw; have r8 := m8 wS hSw; have r9 := m9 wS hSw; go_simp <;> with_reducible rfl)
  simp only [Act.put, List.setIfInBounds_toArray, List.set_cons_zero, List.set_cons_succ]
  refine wpAnyH_take (i := 33) (oi := { dst := some 64, op := Op.binOp BinOp.eql 47 (Operand.tmp 63) (Operand.const Value.nilFunc) 47, type := 4, pos := "law.go:50", after := #[{ on := 32, ground := Ground.data }, { on := 31, ground := Ground.guard }], guard := some (31, false) }) (v := ?vq33) rfl (by as_aux_lemma => kernel_rfl) (by as_aux_lemma => kernel_rfl) (by as_aux_lemma => kernel_rfl) (fun _ _ _ h => h) (Or.inl ⟨by rfl, ?yq33⟩) (by assumption) ?rq33
  case yq33 => (intro wS hSw; (try dsimp only at hSw); have q0 := l0 wS hSw; have q3 := l3 wS hSw; have r0 := m0 wS hSw; have r1 := m1 wS hSw; have r2 := m2 wS hSw; have r3 := m3 wS hSw; have r4 := m4 wS hSw; have r5 := m5 wS hSw; have r6 := m6 wS hSw; have r7 := m7 wS hSw; have r8 := m8 wS hSw; have r9 := m9 wS hSw; go_simp <;> with_reducible rfl)
  simp only [Act.put, List.setIfInBounds_toArray, List.set_cons_zero, List.set_cons_succ]
  refine wpAnyH_take (i := 34) (oi := { dst := some 65, op := Op.pick (Operand.tmp 62) (Operand.const (Value.bool true)) (Operand.tmp 64), type := 4, pos := "law.go:50", after := #[{ on := 31, ground := Ground.data }, { on := 33, ground := Ground.data }], guard := none }) (v := ?vq34) rfl (by as_aux_lemma => kernel_rfl) (by as_aux_lemma => kernel_rfl) (by as_aux_lemma => kernel_rfl) (fun _ _ _ h => h) (Or.inl ⟨by rfl, ?yq34⟩) (by assumption) ?rq34
  case yq34 => (intro wS hSw; (try dsimp only at hSw); have q0 := l0 wS hSw; have q3 := l3 wS hSw; have r0 := m0 wS hSw; have r1 := m1 wS hSw; have r2 := m2 wS hSw; have r3 := m3 wS hSw; have r4 := m4 wS hSw; have r5 := m5 wS hSw; have r6 := m6 wS hSw; have r7 := m7 wS hSw; have r8 := m8 wS hSw; have r9 := m9 wS hSw; go_simp <;> with_reducible rfl)
  simp only [Act.put, List.setIfInBounds_toArray, List.set_cons_zero, List.set_cons_succ]
  refine wpAnyH_done (by as_aux_lemma => kernel_rfl) ?_ _
  simp only [noPanic]
  have hE5 := HE0.out.new hS28
  have HE5 := Lib.hid (And.intro hE5 hS28.size)
  clear hHeld l0 l3 m0 m1 m2 m3 m4 m5 m6 m7 m8 m9 hB0 hS3 hS7 hS13 hS22 hS28 hu3 hu7 hu13 hu22 hu28 hE5 HA1 HA2 HA3 HS1 HS2 HE0
  go_wp2_with fail
  go_loopw [9, 10] (fun al i wr => ∃ k : Nat, k ≤ a.length ∧ al = .int .i64 ((knK a l1 k).length : Nat) ∧ i = .int .i64 k ∧ TaE B V.heap.size A (.slice xa a.length ca) v' l1 a w wr ∧ V.heap.size ≤ wr.heap.size) (fun _ i _ => a.length - (intOf i).toNat)
  case atStart => exact ⟨0, by omega, rfl, rfl, HE5.out.1, HE5.out.2⟩
  case round =>
    obtain ⟨k, hk, rfl, rfl, hE, hVs⟩ := hrel
    have cA0 : wr.cell? ⟨w.heap.size, 0, none⟩ = some (.slice xa a.length ca) := cell_of_row wr _ 0 _ _ _ hE.1.1
    have cU : wr.cell? ⟨w.heap.size + 3, 0, none⟩ = some (.int .u64 (l1 : Nat)) := cell_of_row wr _ 0 _ _ _ hE.1.2.2
    have hkl := knK_le a l1 k
    by_cases hlt : k < a.length
    · obtain ⟨b9, o9, c9, e9, _, d0, d1⟩ := Cs.at hE.2.1 hlt
      injection e9 with e9a e9b e9c
      subst e9a e9c
      have hltI : (k : Int) < (a.length : Int) := by omega
      have HG9 := Lib.hid (fun Z => rbelow_any (cg a k).2 l1 (cg_ok hE.2.1.1 k).2 HB.out.2.1 Z)
      have hal2 := HB.out.2.2.2.2.1
      obtain ⟨t, ht⟩ : ∃ t, sub (cg a k).2 l1 = t := ⟨_, rfl⟩
      rw [ht] at HG9
      have HT := Lib.hid ht
      have HEE := Lib.hid (And.intro hE hVs)
      clear hVs hE ht e9b d0
      generalize (cg a k).2 = p2 at d1 HG9
      cases t with
      | true =>
        go_wp2_with fail
        go_quiet ((go_at_call 29; exact Calls.quiet_of_same ((HG9.out _).mono fun _ _ ⟨h, k⟩ => ⟨h, k.symm⟩)))
        go_wp2_with fail
        go_roundw
        case rel => exact ⟨k + 1, by omega, by rw [knK_hit a l1 k HT.out, List.length_append]; go_num, by go_num, HEE.out.1.new (below_drewN (Below.refl _ _) _), HEE.out.2⟩
        case measure => simp [intOf]; omega
      | false =>
        go_wp2_with fail
        go_quiet ((go_at_call 29; exact Calls.quiet_of_same ((HG9.out _).mono fun _ _ ⟨h, k⟩ => ⟨h, k.symm⟩)))
        go_wp2_with fail
        go_roundw
        case rel => exact ⟨k + 1, by omega, by rw [knK_miss a l1 k HT.out], by go_num, HEE.out.1.new (below_drewN (Below.refl _ _) _), HEE.out.2⟩
        case measure => simp [intOf]; omega
    · obtain rfl : k = a.length := by omega
      have HEE := Lib.hid (And.intro hE hVs)
      clear hVs hE hk HE5 hkl
      go_wp2_with fail
      obtain ⟨gT0, hgT0⟩ : ∃ g, wr.heap.size = g := ⟨_, rfl⟩
      obtain ⟨Z0, hZ0⟩ : ∃ Z, wr.alloc (.cells #[.int .i64 0] 3) = Z := ⟨_, rfl⟩
      have kT0 : Blk Z0 gT0 3 #[.int .i64 0] := by rw [← hZ0, ← hgT0]; exact Blk.new wr _ _
      have hE0 : TaE B V.heap.size A (.slice xa a.length ca) v' l1 a w Z0 := by rw [← hZ0]; exact HEE.out.1.new (balloc (Below.refl _ _) _)
      have hsZ0 : Z0.heap.size = gT0 + 1 := by rw [← hZ0, World.size_alloc, hgT0]
      have hgV0 : A + 1 < gT0 ∧ w.heap.size + 3 < gT0 ∧ V.heap.size ≤ gT0 := ⟨by rw [← hgT0]; exact HEE.out.1.2.2.1.1.2.lt, by rw [← hgT0]; exact HEE.out.1.1.2.2.lt, by rw [← hgT0]; exact HEE.out.2⟩
      rw [hgT0, hZ0]
      have cT0 := cell_of_row Z0 _ 0 _ _ _ kT0
      have HT0 := Lib.hid (And.intro hgT0 (And.intro kT0 (And.intro hE0 (And.intro hsZ0 hgV0))))
      clear hgT0 hZ0 kT0 hE0 hsZ0 hgV0 HEE cA0 cU hlt
      refine wp_loop_rounds 3 ?_
      rw [rounds_succ]
      go_wp2_with fail
      obtain ⟨gN0, hgN0⟩ : ∃ g, Z0.heap.size = g := ⟨_, rfl⟩
      obtain ⟨W0, hW0⟩ : ∃ W, (Z0.alloc (.cells #[.int .i64 0] 3)).alloc (.cells #[.int .i64 (-1)] 3) = W := ⟨_, rfl⟩
      have hZW0 : Below Z0.heap.size Z0 W0 := by rw [← hW0]; exact balloc (balloc (Below.refl _ _) _) _
      have kN0 : Blk W0 gN0 3 #[.int .i64 0] := by rw [← hW0, ← hgN0]; exact (Blk.new Z0 _ _).alloc _
      have kL0 : Blk W0 (gN0 + 1) 3 #[.int .i64 (-1)] := by rw [← hW0, ← hgN0]; exact Blk.newS Z0 _ _ _
      have hsW0 : W0.heap.size = gN0 + 2 := by rw [← hW0]; simp; omega
      rw [hgN0, hW0]
      have HI0 := Lib.hid (show TaI B V.heap.size A gT0 gN0 0 none (.slice xa a.length ca) v' l1 a w [] W0 from ⟨⟨HT0.out.2.2.1.new hZW0, HT0.out.2.1.keep hZW0, kN0, kL0⟩, fun _ => by decide, fun d e => by cases e⟩)
      have HG0 := Lib.hid (show w.heap.size + 3 < gN0 ∧ A + 1 < gN0 ∧ V.heap.size ≤ gN0 ∧ gT0 < gN0 ∧ W0.heap.size = gN0 + 2 ∧ True by have := HT0.out; exact ⟨by omega, by omega, by omega, by omega, by omega, trivial⟩)
      clear hW0 hZW0 kN0 kL0 hsW0 cT0 hgN0
      refine (wpIn_wide (n := 20)).1 ?_
      refine wpIn_rangeV (n := 20) (by omega) (gf := 59) (lb := #[.pointer (some ⟨A, 0, none⟩), .pointer (some ⟨A + 1, 0, none⟩)]) rfl enters_known
        (known_seq (20 - 1) (by omega) A (A + 1) V.heap.size w.heap.size l1 HB.out.2.1 v' a W0) (Below.refl _ _) HI0.out.1.1.2.2.2.size (fun k h => h.elim) (fun _ => rfl)
        (TaI B V.heap.size A gT0 gN0 0 none (.slice xa a.length ca) v' l1 a w) (TaX B V.heap.size A gT0 gN0 0 none (.slice xa a.length ca) v' l1 a w)
        (TaI.stay (by have := HG0.out; have := HB.out; omega) (by have := HG0.out; have := HB.out; omega) (by have := HG0.out; have := HB.out; omega) (by have := HG0.out; have := HB.out; omega) (by have := HG0.out; have := HB.out; omega) (by have := HG0.out; have := HB.out; omega) (fun d e => by cases e)) (fun c => TaX.stay (by have := HG0.out; have := HB.out; omega) (by have := HG0.out; have := HB.out; omega) (by have := HG0.out; have := HB.out; omega) (by have := HG0.out; have := HB.out; omega) (by have := HG0.out; have := HB.out; omega) (by have := HG0.out; have := HB.out; omega) (fun d e => by cases e) c) (fun pre X h => h.1.1.2.2.1) HI0.out
        (fun x a' _ => ∃ y : Nat → Value, a' = { tmps := #[y 0, y 1, y 2, .pointer (some ⟨w.heap.size, 0, none⟩), y 4, y 5, .pointer (some ⟨w.heap.size + 1 + 1, 0, none⟩), .pointer (some ⟨w.heap.size + 3, 0, none⟩), .func (.func 59) #[] #[.pointer (some ⟨A, 0, none⟩), .pointer (some ⟨A + 1, 0, none⟩)], y 9, y 10, .pointer (some ⟨gT0, 0, none⟩), .pointer (some ⟨gN0, 0, none⟩), .pointer (some ⟨gN0 + 1, 0, none⟩), .int .i64 x, .int .u8 ((cg a x).1 : Nat), y 16, y 17, y 18, y 19, y 20, y 21, y 22, y 23, y 24, y 25, y 26, y 27, y 28, y 29, y 30, y 31, y 32, y 33, y 34, y 35, y 36, y 37, y 38, y 39, y 40, y 41, y 42, y 43, y 44, y 45, y 46, y 47, y 48, y 49, y 50, y 51, y 52, y 53, y 54, y 55, y 56, y 57, y 58, y 59, y 60, y 61, y 62, y 63, y 64, y 65, y 66, y 67, y 68, y 69, y 70, y 71, y 72, y 73, y 74, y 75, y 76, y 77, y 78, y 79, y 80, y 81, y 82, y 83, y 84, y 85, y 86, y 87, y 88, y 89, y 90, y 91, y 92, y 93, y 94, y 95, y 96, y 97, y 98, y 99, y 100, y 101, y 102, y 103, y 104, y 105, y 106, y 107, y 108, y 109, y 110, y 111, y 112, y 113, y 114, y 115, y 116, y 117, y 118, y 119, y 120, y 121, y 122, y 123, y 124, y 125, y 126, y 127, y 128, y 129, y 130, y 131, y 132, y 133, y 134, y 135, y 136, y 137, y 138, y 139, y 140, y 141, y 142, y 143], defers := [] })
        (fun x a' _ _ _ _ hs _ _ => hs)
        ?assign ?body ?done ?stop
      case assign =>
        rintro l2 pre x X K _ _ hi hK
        gi_wp2_with fail
        exact hK _ _ (KeptM.refl _ _) (Below.refl _ _) hi (ex_frame (by rfl))
      case body =>
        rintro l2 pre x a' X hl2 ⟨hpre, hx, hs⟩ hlo ⟨⟨hE, kT, kN, kL⟩, hlt3, hmk⟩ ⟨y, rfl⟩
        obtain ⟨b9, o9, c9, e9, _, d0, d1⟩ := Cs.at hE.2.1 hx
        injection e9 with e9a e9b e9c
        subst e9a e9c
        have cA0 : X.cell? ⟨w.heap.size, 0, none⟩ = some (.slice (some ⟨b9, o9, none⟩) a.length ca) := cell_of_row X _ 0 _ _ _ hE.1.1
        have cU : X.cell? ⟨w.heap.size + 3, 0, none⟩ = some (.int .u64 (l1 : Nat)) := cell_of_row X _ 0 _ _ _ hE.1.2.2
        have cL : X.cell? ⟨gN0 + 1, 0, none⟩ = some (.int .i64 (lastI pre)) := cell_of_row X _ 0 _ _ _ kL
        have hxI : (x : Int) < (a.length : Int) := by omega
        have hxJ : ¬ (a.length : Int) ≤ (x : Int) := by omega
        have hla : lastI pre < (x : Int) := by rw [hpre]; exact lastI_lt a l1 x
        have hlb : ¬ (x : Int) ≤ lastI pre := by omega
        have hdb : decide ((x : Int) ≤ lastI pre) = false := decide_eq_false hlb
        have hdx : decide (a.length ≤ x) = false := decide_eq_false (by omega)
        have HG9 := Lib.hid (fun Z => rbelow_any (cg a x).2 l1 (cg_ok hE.2.1.1 x).2 HB.out.2.1 Z)
        rw [hs] at HG9
        have hpl : pre.length ≤ 200 := by rw [hpre]; have := knK_le a l1 x; have := HB.out; omega
        have HBD := Lib.hid (And.intro (And.intro hE (And.intro kT (And.intro kN kL))) (And.intro hlt3 (And.intro hmk (And.intro hpl (And.intro hpre (And.intro hx hl2))))))
        clear hE kT kN kL hlt3 hmk hpre hx hs hlo e9b hl2
        --P1
        generalize (cg a x).2 = p2 at d1 HG9
        gi_wp2_with fail
        refine wpIn_region_quiet_round l2 (by kernel_rfl) (by kernel_rfl) (by kernel_rfl) ?_
        iterate 25 (quiet_step_in (fail))
        refine wpQuietIn_step (fun _ _ _ _ => trivial) (fun K hK => ?_)
        go_simp
        apply Exists.intro
        refine ⟨fun _ => ?_, hK _ ?_⟩
        · gi_at_call 29
          exact CallsIn.quiet_of_same (callsIn_wide.2 ((HG9.out _).mono fun _ _ ⟨h, k⟩ => ⟨h, k.symm⟩))
        clear hK K
        iterate 2 (quiet_step_in (fail))
        refine wpQuietIn_nil ?_
        intro _ hw'
        obtain ⟨nq, hw''⟩ := hw'
        subst hw''
        obtain ⟨hH4, hlt3, hmk, hpl, hpre, hx, hl2⟩ := HBD.out
        obtain ⟨Xq, hXq⟩ : ∃ Xq, X.drewN nq = Xq := ⟨_, rfl⟩
        have hGq : X.grownBy Xq none := by rw [← hXq]; exact ⟨rfl, rfl, rfl, Nat.le_refl _, fun _ _ _ => rfl⟩
        have hBX : Below w.heap.size X Xq := by rw [← hXq]; exact below_drewN (Below.refl _ X) nq
        have hT4 := ta_kept (q := gN0 + 2) hH4 hmk hGq (by have := HG0.out; have := HB.out; omega) (by have := HG0.out; have := HB.out; omega) (by have := HG0.out; have := HB.out; omega) (by have := HG0.out; have := HB.out; omega) (by have := HG0.out; have := HB.out; omega) (by have := HG0.out; have := HB.out; omega) (fun d e => by cases e) (fun r e => by cases e)
        rw [hXq]
        clear hXq hH4 cA0 cU cL d0 d1 HG9 hdb hdx hmk hx hpre hxI hxJ hla hlb hl2 HBD
        have hS := ta_set (x := x) (q := gN0) hT4.1 hT4.2 (by have := HG0.out; have := HB.out; omega) (by have := HG0.out; have := HB.out; omega) (by have := HG0.out; have := HB.out; omega) (by have := HG0.out; have := HB.out; omega) (by have := HG0.out; have := HB.out; omega) (Nat.le_refl _) (fun d e => by cases e)
        have hwp : IntKind.i64.wrap ((pre.length : Int) + 1) = (pre.length : Int) + 1 := IntWalk.i64_in _ (by omega)
        have hX1 : KeptM (fun k => noM k ∨ k = W0.heap.size ∨ k = W0.heap.size + 1) X ((Xq.setCell ⟨gN0 + 1, 0, none⟩ (.int .i64 x)).setCell ⟨gN0, 0, none⟩ (.int .i64 ((pre.length : Int) + 1))) :=
          ((KeptM.grown hGq (fun r e => by cases e)).trans (KeptM.grown (grown_set' (grown_refl Xq (gN0 + 1)) 0 _) (fun r e h => by cases e; have := HG0.out; rcases h with h | h | h; exact h.elim; omega; omega))).trans (KeptM.grown (grown_set' (grown_refl _ gN0) 0 _) (fun r e h => by cases e; have := HG0.out; rcases h with h | h | h; exact h.elim; omega; omega))
        have hX2 : Below w.heap.size X ((Xq.setCell ⟨gN0 + 1, 0, none⟩ (.int .i64 x)).setCell ⟨gN0, 0, none⟩ (.int .i64 ((pre.length : Int) + 1))) := (hBX.setCell (p := ⟨gN0 + 1, 0, none⟩) (by have := HG0.out; simp; omega) _).setCell (p := ⟨gN0, 0, none⟩) (by have := HG0.out; simp; omega) _
        have cL := cell_of_row Xq _ 0 _ _ _ hT4.1.2.2.2
        have fL := frozen_of_row Xq _ 0 _ _ hT4.1.2.2.2
        have cN := cell_of_row _ _ 0 _ _ _ hS.2
        have fN := frozen_of_row _ _ 0 _ _ hS.2
        have cT2 := cell_of_row _ _ 0 _ _ _ hS.1.1.2.1
        have cN2 := cell_of_row _ _ 0 _ _ _ hS.1.1.2.2.1
        have hln : (((pre ++ [x]).length : Nat) : Int) = (pre.length : Int) + 1 := by simp
        rw [hln] at cN2
        have HFi := Lib.hid (And.intro hS.1 (And.intro hX1 (And.intro hX2 hln)))
        clear hS hX1 hX2 hT4 hGq hBX hln
        have hlt := hlt3 (by trivial)
        clear hlt3
        by_cases h3 : 3 ≤ pre.length + 1
        · have hcb : decide ((3 : Int) ≤ (pre.length : Int) + 1) = true := decide_eq_true (by omega)
          gi_wp2_with fail
          exact ⟨HFi.out.2.1, HFi.out.1.1, ⟨rfl, rfl, by rw [List.length_append]; simp; omega⟩, HFi.out.1.2⟩
        · have hcb : decide ((3 : Int) ≤ (pre.length : Int) + 1) = false := decide_eq_false (by omega)
          gi_wp2_with fail
          exact ⟨HFi.out.2.1, HFi.out.2.2.1, HFi.out.1.1, fun _ => by rw [List.length_append]; simp; omega, HFi.out.1.2⟩
      case done =>
        rintro D0 xs X0 hD0 rfl ⟨⟨hE, kT, kN, kL⟩, hlt3, _⟩ hK0
        have hl3 := hlt3 rfl
        obtain ⟨n0, hn0⟩ : ∃ n0, (knK a l1 a.length).length = n0 := ⟨_, rfl⟩
        rw [hn0] at kN hl3
        have hmin : min ((knK a l1 a.length).length : Int) 3 = (n0 : Int) := by rw [hn0]; omega
        have cT : X0.cell? ⟨gT0, 0, none⟩ = some (.int .i64 0) := cell_of_row X0 _ 0 _ _ _ kT
        have cN : X0.cell? ⟨gN0, 0, none⟩ = some (.int .i64 (n0 : Nat)) := cell_of_row X0 _ 0 _ _ _ kN
        obtain ⟨gT1, hgT1⟩ : ∃ g, X0.heap.size = g := ⟨_, rfl⟩
        obtain ⟨Z1, hZ1⟩ : ∃ Z, X0.alloc (.cells #[.int .i64 1] 3) = Z := ⟨_, rfl⟩
        have hXZ1 : Below X0.heap.size X0 Z1 := by rw [← hZ1]; exact balloc (Below.refl _ _) _
        have kT1 : Blk Z1 gT1 3 #[.int .i64 1] := by rw [← hZ1, ← hgT1]; exact Blk.new X0 _ _
        have hE1 : TaE B V.heap.size A (.slice xa a.length ca) v' l1 a w Z1 := hE.new hXZ1
        have hsZ1 : Z1.heap.size = gT1 + 1 := by rw [← hZ1, World.size_alloc, hgT1]
        have hDl0 : D0 < X0.heap.size := (Array.getElem?_eq_some_iff.1 hK0).1
        have hgV1 : A + 1 < gT1 ∧ w.heap.size + 3 < gT1 ∧ V.heap.size ≤ gT1 ∧ D0 < gT1 ∧ w.heap.size + 3 < D0 := by have := HG0.out; have := kL.lt; exact ⟨by omega, by omega, by omega, by omega, by omega⟩
        have HM1 := Lib.hid ((hXZ1.block D0 hDl0).trans hK0)
        have HT1 := Lib.hid (And.intro hgT1 (And.intro kT1 (And.intro hE1 (And.intro hsZ1 hgV1))))
        have cT1 := cell_of_row Z1 _ 0 _ _ _ kT1
        have HQ1 := Lib.hid (And.intro hgT1 hZ1)
        clear hXZ1 kT1 hE1 hsZ1 hgV1 hDl0 hgT1 hZ1 hE kT kN kL hK0 hD0 HG0 HT0 HI0 hn0 hl3
        go_wp2_with fail
        rw [HQ1.out.1, HQ1.out.2]
        clear HQ1 cT cN hmin
        rw [rounds_succ]
        go_wp2_with fail
        obtain ⟨gN1, hgN1⟩ : ∃ g, Z1.heap.size = g := ⟨_, rfl⟩
        obtain ⟨W1, hW1⟩ : ∃ W, (Z1.alloc (.cells #[.int .i64 0] 3)).alloc (.cells #[.int .i64 (-1)] 3) = W := ⟨_, rfl⟩
        have hZW1 : Below Z1.heap.size Z1 W1 := by rw [← hW1]; exact balloc (balloc (Below.refl _ _) _) _
        have kN1 : Blk W1 gN1 3 #[.int .i64 0] := by rw [← hW1, ← hgN1]; exact (Blk.new Z1 _ _).alloc _
        have kL1 : Blk W1 (gN1 + 1) 3 #[.int .i64 (-1)] := by rw [← hW1, ← hgN1]; exact Blk.newS Z1 _ _ _
        have hsW1 : W1.heap.size = gN1 + 2 := by rw [← hW1]; simp; omega
        rw [hgN1, hW1]
        have HI1 := Lib.hid (show TaI B V.heap.size A gT1 gN1 1 (some D0) (.slice xa a.length ca) v' l1 a w [] W1 from ⟨⟨HT1.out.2.2.1.new hZW1, HT1.out.2.1.keep hZW1, kN1, kL1⟩, fun _ => by decide, fun d e => by cases e; exact (hZW1.block D0 (Array.getElem?_eq_some_iff.1 HM1.out).1).trans HM1.out⟩)
        have HG1 := Lib.hid (show w.heap.size + 3 < gN1 ∧ A + 1 < gN1 ∧ V.heap.size ≤ gN1 ∧ gT1 < gN1 ∧ W1.heap.size = gN1 + 2 ∧ D0 < gN1 by have := HT1.out; omega)
        clear hW1 hZW1 kN1 kL1 hsW1 cT1 hgN1
        refine (wpIn_wide (n := 20)).1 ?_
        refine wpIn_rangeV (n := 20) (by omega) (gf := 59) (lb := #[.pointer (some ⟨A, 0, none⟩), .pointer (some ⟨A + 1, 0, none⟩)]) rfl enters_known
          (known_seq (20 - 1) (by omega) A (A + 1) V.heap.size w.heap.size l1 HB.out.2.1 v' a W1) (Below.refl _ _) HI1.out.1.1.2.2.2.size (fun k h => h.elim) (fun _ => rfl)
          (TaI B V.heap.size A gT1 gN1 1 (some D0) (.slice xa a.length ca) v' l1 a w) (TaX B V.heap.size A gT1 gN1 1 (some D0) (.slice xa a.length ca) v' l1 a w)
          (TaI.stay (by have := HG1.out; have := HB.out; omega) (by have := HG1.out; have := HB.out; omega) (by have := HG1.out; have := HB.out; omega) (by have := HG1.out; have := HB.out; omega) (by have := HG1.out; have := HB.out; omega) (by have := HG1.out; have := HB.out; omega) (fun d e => by cases e; have := HG1.out; omega)) (fun c => TaX.stay (by have := HG1.out; have := HB.out; omega) (by have := HG1.out; have := HB.out; omega) (by have := HG1.out; have := HB.out; omega) (by have := HG1.out; have := HB.out; omega) (by have := HG1.out; have := HB.out; omega) (by have := HG1.out; have := HB.out; omega) (fun d e => by cases e; have := HG1.out; omega) c) (fun pre X h => h.1.1.2.2.1) HI1.out
          (fun x a' _ => ∃ y : Nat → Value, a' = { tmps := #[y 0, y 1, y 2, .pointer (some ⟨w.heap.size, 0, none⟩), y 4, y 5, .pointer (some ⟨w.heap.size + 1 + 1, 0, none⟩), .pointer (some ⟨w.heap.size + 3, 0, none⟩), .func (.func 59) #[] #[.pointer (some ⟨A, 0, none⟩), .pointer (some ⟨A + 1, 0, none⟩)], y 9, y 10, .pointer (some ⟨gT1, 0, none⟩), .pointer (some ⟨gN1, 0, none⟩), .pointer (some ⟨gN1 + 1, 0, none⟩), .int .i64 x, .int .u8 ((cg a x).1 : Nat), y 16, y 17, y 18, y 19, y 20, y 21, y 22, y 23, y 24, y 25, y 26, y 27, y 28, y 29, y 30, y 31, y 32, y 33, y 34, y 35, y 36, y 37, y 38, y 39, y 40, y 41, y 42, y 43, y 44, y 45, y 46, y 47, y 48, y 49, y 50, y 51, y 52, y 53, y 54, y 55, y 56, y 57, y 58, y 59, y 60, y 61, y 62, y 63, y 64, y 65, y 66, y 67, y 68, y 69, y 70, y 71, y 72, y 73, y 74, y 75, y 76, y 77, y 78, y 79, y 80, y 81, y 82, y 83, y 84, y 85, y 86, y 87, y 88, y 89, y 90, y 91, y 92, y 93, y 94, y 95, y 96, y 97, y 98, y 99, y 100, y 101, y 102, y 103, y 104, y 105, y 106, y 107, y 108, y 109, y 110, y 111, y 112, y 113, y 114, y 115, y 116, y 117, y 118, y 119, y 120, y 121, y 122, y 123, y 124, y 125, y 126, y 127, y 128, y 129, y 130, y 131, y 132, y 133, y 134, y 135, y 136, y 137, y 138, y 139, y 140, y 141, y 142, y 143], defers := [] })
          (fun x a' _ _ _ _ hs _ _ => hs)
          ?assign1 ?body1 ?done1 ?stop1
        case assign1 =>
          rintro l2 pre x X K _ _ hi hK
          gi_wp2_with fail
          exact hK _ _ (KeptM.refl _ _) (Below.refl _ _) hi (ex_frame (by rfl))
        case body1 =>
          rintro l2 pre x a' X hl2 ⟨hpre, hx, hs⟩ hlo ⟨⟨hE, kT, kN, kL⟩, hlt3, hmk⟩ ⟨y, rfl⟩
          obtain ⟨b9, o9, c9, e9, _, d0, d1⟩ := Cs.at hE.2.1 hx
          injection e9 with e9a e9b e9c
          subst e9a e9c
          have cA0 : X.cell? ⟨w.heap.size, 0, none⟩ = some (.slice (some ⟨b9, o9, none⟩) a.length ca) := cell_of_row X _ 0 _ _ _ hE.1.1
          have cU : X.cell? ⟨w.heap.size + 3, 0, none⟩ = some (.int .u64 (l1 : Nat)) := cell_of_row X _ 0 _ _ _ hE.1.2.2
          have cL : X.cell? ⟨gN1 + 1, 0, none⟩ = some (.int .i64 (lastI pre)) := cell_of_row X _ 0 _ _ _ kL
          have hxI : (x : Int) < (a.length : Int) := by omega
          have hxJ : ¬ (a.length : Int) ≤ (x : Int) := by omega
          have hla : lastI pre < (x : Int) := by rw [hpre]; exact lastI_lt a l1 x
          have hlb : ¬ (x : Int) ≤ lastI pre := by omega
          have hdb : decide ((x : Int) ≤ lastI pre) = false := decide_eq_false hlb
          have hdx : decide (a.length ≤ x) = false := decide_eq_false (by omega)
          have HG9 := Lib.hid (fun Z => rbelow_any (cg a x).2 l1 (cg_ok hE.2.1.1 x).2 HB.out.2.1 Z)
          rw [hs] at HG9
          have hpl : pre.length ≤ 200 := by rw [hpre]; have := knK_le a l1 x; have := HB.out; omega
          have HBD := Lib.hid (And.intro (And.intro hE (And.intro kT (And.intro kN kL))) (And.intro hlt3 (And.intro hmk (And.intro hpl (And.intro hpre (And.intro hx hl2))))))
          clear hE kT kN kL hlt3 hmk hpre hx hs hlo e9b hl2
          --P1
          generalize (cg a x).2 = p2 at d1 HG9
          gi_wp2_with fail
          refine wpIn_region_quiet_round l2 (by kernel_rfl) (by kernel_rfl) (by kernel_rfl) ?_
          iterate 25 (quiet_step_in (fail))
          refine wpQuietIn_step (fun _ _ _ _ => trivial) (fun K hK => ?_)
          go_simp
          apply Exists.intro
          refine ⟨fun _ => ?_, hK _ ?_⟩
          · gi_at_call 29
            exact CallsIn.quiet_of_same (callsIn_wide.2 ((HG9.out _).mono fun _ _ ⟨h, k⟩ => ⟨h, k.symm⟩))
          clear hK K
          iterate 2 (quiet_step_in (fail))
          refine wpQuietIn_nil ?_
          intro _ hw'
          obtain ⟨nq, hw''⟩ := hw'
          subst hw''
          obtain ⟨hH4, hlt3, hmk, hpl, hpre, hx, hl2⟩ := HBD.out
          obtain ⟨Xq, hXq⟩ : ∃ Xq, X.drewN nq = Xq := ⟨_, rfl⟩
          have hGq : X.grownBy Xq none := by rw [← hXq]; exact ⟨rfl, rfl, rfl, Nat.le_refl _, fun _ _ _ => rfl⟩
          have hBX : Below w.heap.size X Xq := by rw [← hXq]; exact below_drewN (Below.refl _ X) nq
          have hT4 := ta_kept (q := gN1 + 2) hH4 hmk hGq (by have := HG1.out; have := HB.out; omega) (by have := HG1.out; have := HB.out; omega) (by have := HG1.out; have := HB.out; omega) (by have := HG1.out; have := HB.out; omega) (by have := HG1.out; have := HB.out; omega) (by have := HG1.out; have := HB.out; omega) (fun d e => by cases e; have := HG1.out; omega) (fun r e => by cases e)
          rw [hXq]
          clear hXq hH4 cA0 cU cL d0 d1 HG9 hdb hdx hmk hx hpre hxI hxJ hla hlb hl2 HBD
          have hS := ta_set (x := x) (q := gN1) hT4.1 hT4.2 (by have := HG1.out; have := HB.out; omega) (by have := HG1.out; have := HB.out; omega) (by have := HG1.out; have := HB.out; omega) (by have := HG1.out; have := HB.out; omega) (by have := HG1.out; have := HB.out; omega) (Nat.le_refl _) (fun d e => by cases e; have := HG1.out; omega)
          have hwp : IntKind.i64.wrap ((pre.length : Int) + 1) = (pre.length : Int) + 1 := IntWalk.i64_in _ (by omega)
          have hX1 : KeptM (fun k => noM k ∨ k = W1.heap.size ∨ k = W1.heap.size + 1) X ((Xq.setCell ⟨gN1 + 1, 0, none⟩ (.int .i64 x)).setCell ⟨gN1, 0, none⟩ (.int .i64 ((pre.length : Int) + 1))) :=
            ((KeptM.grown hGq (fun r e => by cases e)).trans (KeptM.grown (grown_set' (grown_refl Xq (gN1 + 1)) 0 _) (fun r e h => by cases e; have := HG1.out; rcases h with h | h | h; exact h.elim; omega; omega))).trans (KeptM.grown (grown_set' (grown_refl _ gN1) 0 _) (fun r e h => by cases e; have := HG1.out; rcases h with h | h | h; exact h.elim; omega; omega))
          have hX2 : Below w.heap.size X ((Xq.setCell ⟨gN1 + 1, 0, none⟩ (.int .i64 x)).setCell ⟨gN1, 0, none⟩ (.int .i64 ((pre.length : Int) + 1))) := (hBX.setCell (p := ⟨gN1 + 1, 0, none⟩) (by have := HG1.out; simp; omega) _).setCell (p := ⟨gN1, 0, none⟩) (by have := HG1.out; simp; omega) _
          have cL := cell_of_row Xq _ 0 _ _ _ hT4.1.2.2.2
          have fL := frozen_of_row Xq _ 0 _ _ hT4.1.2.2.2
          have cN := cell_of_row _ _ 0 _ _ _ hS.2
          have fN := frozen_of_row _ _ 0 _ _ hS.2
          have cT2 := cell_of_row _ _ 0 _ _ _ hS.1.1.2.1
          have cN2 := cell_of_row _ _ 0 _ _ _ hS.1.1.2.2.1
          have hln : (((pre ++ [x]).length : Nat) : Int) = (pre.length : Int) + 1 := by simp
          rw [hln] at cN2
          have HFi := Lib.hid (And.intro hS.1 (And.intro hX1 (And.intro hX2 hln)))
          clear hS hX1 hX2 hT4 hGq hBX hln
          gi_wp2_with (first | (with_reducible refine And.intro (fun f h => (by cases h)) ?_) | fail)
          exact ⟨HFi.out.2.1, HFi.out.2.2.1, HFi.out.1.1, fun e => absurd e (by decide), HFi.out.1.2⟩
        case done1 =>
          rintro D1 xs X1 hD1 rfl ⟨⟨hE, kT, kN, kL⟩, _, hmk⟩ hK1
          have hK0 := hmk D0 rfl
          have cT : X1.cell? ⟨gT1, 0, none⟩ = some (.int .i64 1) := cell_of_row X1 _ 0 _ _ _ kT
          have cN : X1.cell? ⟨gN1, 0, none⟩ = some (.int .i64 ((knK a l1 a.length).length : Nat)) := cell_of_row X1 _ 0 _ _ _ kN
          obtain ⟨gU, hgU⟩ : ∃ g, X1.heap.size = g := ⟨_, rfl⟩
          obtain ⟨X2, hX2⟩ : ∃ Z, X1.alloc (.cells #[.int .i64 2] 3) = Z := ⟨_, rfl⟩
          have hXZ : Below X1.heap.size X1 X2 := by rw [← hX2]; exact balloc (Below.refl _ _) _
          have kU : Blk X2 gU 3 #[.int .i64 2] := by rw [← hX2, ← hgU]; exact Blk.new X1 _ _
          have hE2 := hE.new hXZ
          have hd0 := (hXZ.block D0 (Array.getElem?_eq_some_iff.1 hK0).1).trans hK0
          have hd1 := (hXZ.block D1 (Array.getElem?_eq_some_iff.1 hK1).1).trans hK1
          have hne : D0 < D1 ∧ w.heap.size + 3 < D0 := by have := HG1.out; have := HT1.out.2.2.2; exact ⟨by omega, by omega⟩
          have HQ2 := Lib.hid (And.intro hgU hX2)
          have HR := Lib.hid hE2.1.2.1
          have HD := Lib.hid (And.intro hd0 (And.intro hd1 (And.intro hne hE2.2.2.2)))
          have cU := cell_of_row X2 _ 0 _ _ _ kU
          clear hXZ kU hE2 hd0 hd1 hne hgU hX2 hE kT kN kL hmk hK0 hK1 hD1 HT1 HG1 HI1 HM1
          go_wp2_with fail
          rw [HQ2.out.1, HQ2.out.2]
          clear HQ2 cT cN
          rw [rounds_succ]
          go_wp2_with (first | (go_at_call 7; refine (tworks_any _).mono ?_; rintro e wz ⟨rfl, hz⟩; have hR := HR.out.keep hz; have f0 := frozen_of_row _ _ 0 _ _ hR; have d0 := cell_of_row _ _ 0 _ _ _ hR; have HZ := Lib.hid (And.intro hR hz); clear hz hR) | fail)
          have hz := HZ.out.2
          obtain ⟨hd0, hd1, ⟨hne, hwD⟩, hwX⟩ := HD.out
          have hDY : (wz.setCell ⟨w.heap.size + 1 + 1, 0, none⟩ (.bool true)).heap[D0]? = some (.deferred (some [])) := (Below.heap_setCell wz ⟨w.heap.size + 1 + 1, 0, none⟩ _ D0 (by simp; omega)).trans ((hz.block D0 (Array.getElem?_eq_some_iff.1 hd0).1).trans hd0)
          have hEY : (wz.setCell ⟨w.heap.size + 1 + 1, 0, none⟩ (.bool true)).heap[D1]? = some (.deferred (some [])) := (Below.heap_setCell wz ⟨w.heap.size + 1 + 1, 0, none⟩ _ D1 (by simp; omega)).trans ((hz.block D1 (Array.getElem?_eq_some_iff.1 hd1).1).trans hd1)
          have bY : Blk (wz.setCell ⟨w.heap.size + 1 + 1, 0, none⟩ (.bool true)) (w.heap.size + 1 + 1) 4 #[.bool true] := heap_setCell_same wz _ 0 _ _ _ HZ.out.1
          have hBY : Below w.heap.size w (wz.setCell ⟨w.heap.size + 1 + 1, 0, none⟩ (.bool true)) := (bstep hwX hz).setCell (p := ⟨w.heap.size + 1 + 1, 0, none⟩) (by simp; omega) _
          obtain ⟨Y9, hY9⟩ : ∃ Y9, wz.setCell ⟨w.heap.size + 1 + 1, 0, none⟩ (.bool true) = Y9 := ⟨_, rfl⟩
          rw [hY9] at hDY hEY bY hBY ⊢
          clear hY9 hd0 hd1 hwX hz HZ HD f0 d0
          have hD2' : (Y9.putObj D1 (.deferred none)).heap[D0]? = some (.deferred (some [])) := (World.putObj_heap_other (by omega)).trans hDY
          have bY2 : Blk (Y9.putObj D1 (.deferred none)) (w.heap.size + 1 + 1) 4 #[.bool true] := bY.kept (grownBy_putObj' Y9 D1 _) (by intro e; cases e; omega)
          have bY3 : Blk ((Y9.putObj D1 (.deferred none)).putObj D0 (.deferred none)) (w.heap.size + 1 + 1) 4 #[.bool true] := bY2.kept (grownBy_putObj' _ D0 _) (by intro e; cases e; omega)
          have q0 := cell_of_row _ _ 0 _ _ _ bY3
          refine ⟨by simp, .inl ⟨_, _, rfl, run_takeDeferred hEY, ?_⟩⟩
          refine ⟨by simp, .inl ⟨_, _, rfl, run_takeDeferred hD2', ?_⟩⟩
          exact ⟨.bool true, by simp [results, Try.results5, go_sem, q0], rfl, (hBY.trans (below_put Y9 _ (by omega))).trans (below_put _ _ (by omega))⟩
        
        case stop1 =>
          rintro D1 c pre X1 hD1 _ ⟨_, ⟨_, h0, _⟩, _⟩ _
          exact absurd h0 (by decide)
      
      case stop =>
        rintro D0 c pre X0 hD0 ⟨k0, hp0, hk0, _⟩ ⟨⟨hE, kT, kN, kL⟩, ⟨rfl, _, hp3⟩, _⟩ hK0
        have hl3 : 3 ≤ (knK a l1 a.length).length := by have := knK_mono a l1 (show k0 + 1 ≤ a.length by omega); rw [← hp0] at this; omega
        obtain ⟨n0, hn0⟩ : ∃ n0, pre.length = n0 := ⟨_, rfl⟩
        rw [hn0] at kN
        have hmin : min ((knK a l1 a.length).length : Int) 3 = (n0 : Int) := by omega
        have HD0 := Lib.hid hD0
        clear hD0
        gi_wp2_with fail
        have hD0 := HD0.out
        clear HD0
        have cT : X0.cell? ⟨gT0, 0, none⟩ = some (.int .i64 0) := cell_of_row X0 _ 0 _ _ _ kT
        have cN : X0.cell? ⟨gN0, 0, none⟩ = some (.int .i64 (n0 : Nat)) := cell_of_row X0 _ 0 _ _ _ kN
        obtain ⟨gT1, hgT1⟩ : ∃ g, X0.heap.size = g := ⟨_, rfl⟩
        obtain ⟨Z1, hZ1⟩ : ∃ Z, X0.alloc (.cells #[.int .i64 1] 3) = Z := ⟨_, rfl⟩
        have hXZ1 : Below X0.heap.size X0 Z1 := by rw [← hZ1]; exact balloc (Below.refl _ _) _
        have kT1 : Blk Z1 gT1 3 #[.int .i64 1] := by rw [← hZ1, ← hgT1]; exact Blk.new X0 _ _
        have hE1 : TaE B V.heap.size A (.slice xa a.length ca) v' l1 a w Z1 := hE.new hXZ1
        have hsZ1 : Z1.heap.size = gT1 + 1 := by rw [← hZ1, World.size_alloc, hgT1]
        have hDl0 : D0 < X0.heap.size := (Array.getElem?_eq_some_iff.1 hK0).1
        have hgV1 : A + 1 < gT1 ∧ w.heap.size + 3 < gT1 ∧ V.heap.size ≤ gT1 ∧ D0 < gT1 ∧ w.heap.size + 3 < D0 := by have := HG0.out; have := kL.lt; exact ⟨by omega, by omega, by omega, by omega, by omega⟩
        have HM1 := Lib.hid ((hXZ1.block D0 hDl0).trans hK0)
        have HT1 := Lib.hid (And.intro hgT1 (And.intro kT1 (And.intro hE1 (And.intro hsZ1 hgV1))))
        have cT1 := cell_of_row Z1 _ 0 _ _ _ kT1
        have HQ1 := Lib.hid (And.intro hgT1 hZ1)
        clear hXZ1 kT1 hE1 hsZ1 hgV1 hDl0 hgT1 hZ1 hE kT kN kL hK0 hD0 HG0 HT0 HI0 hn0 hl3
        go_wp2_with fail
        rw [HQ1.out.1, HQ1.out.2]
        clear HQ1 cT cN hmin
        rw [rounds_succ]
        go_wp2_with fail
        obtain ⟨gN1, hgN1⟩ : ∃ g, Z1.heap.size = g := ⟨_, rfl⟩
        obtain ⟨W1, hW1⟩ : ∃ W, (Z1.alloc (.cells #[.int .i64 0] 3)).alloc (.cells #[.int .i64 (-1)] 3) = W := ⟨_, rfl⟩
        have hZW1 : Below Z1.heap.size Z1 W1 := by rw [← hW1]; exact balloc (balloc (Below.refl _ _) _) _
        have kN1 : Blk W1 gN1 3 #[.int .i64 0] := by rw [← hW1, ← hgN1]; exact (Blk.new Z1 _ _).alloc _
        have kL1 : Blk W1 (gN1 + 1) 3 #[.int .i64 (-1)] := by rw [← hW1, ← hgN1]; exact Blk.newS Z1 _ _ _
        have hsW1 : W1.heap.size = gN1 + 2 := by rw [← hW1]; simp; omega
        rw [hgN1, hW1]
        have HI1 := Lib.hid (show TaI B V.heap.size A gT1 gN1 1 (some D0) (.slice xa a.length ca) v' l1 a w [] W1 from ⟨⟨HT1.out.2.2.1.new hZW1, HT1.out.2.1.keep hZW1, kN1, kL1⟩, fun _ => by decide, fun d e => by cases e; exact (hZW1.block D0 (Array.getElem?_eq_some_iff.1 HM1.out).1).trans HM1.out⟩)
        have HG1 := Lib.hid (show w.heap.size + 3 < gN1 ∧ A + 1 < gN1 ∧ V.heap.size ≤ gN1 ∧ gT1 < gN1 ∧ W1.heap.size = gN1 + 2 ∧ D0 < gN1 by have := HT1.out; omega)
        clear hW1 hZW1 kN1 kL1 hsW1 cT1 hgN1
        refine (wpIn_wide (n := 20)).1 ?_
        refine wpIn_rangeV (n := 20) (by omega) (gf := 59) (lb := #[.pointer (some ⟨A, 0, none⟩), .pointer (some ⟨A + 1, 0, none⟩)]) rfl enters_known
          (known_seq (20 - 1) (by omega) A (A + 1) V.heap.size w.heap.size l1 HB.out.2.1 v' a W1) (Below.refl _ _) HI1.out.1.1.2.2.2.size (fun k h => h.elim) (fun _ => rfl)
          (TaI B V.heap.size A gT1 gN1 1 (some D0) (.slice xa a.length ca) v' l1 a w) (TaX B V.heap.size A gT1 gN1 1 (some D0) (.slice xa a.length ca) v' l1 a w)
          (TaI.stay (by have := HG1.out; have := HB.out; omega) (by have := HG1.out; have := HB.out; omega) (by have := HG1.out; have := HB.out; omega) (by have := HG1.out; have := HB.out; omega) (by have := HG1.out; have := HB.out; omega) (by have := HG1.out; have := HB.out; omega) (fun d e => by cases e; have := HG1.out; omega)) (fun c => TaX.stay (by have := HG1.out; have := HB.out; omega) (by have := HG1.out; have := HB.out; omega) (by have := HG1.out; have := HB.out; omega) (by have := HG1.out; have := HB.out; omega) (by have := HG1.out; have := HB.out; omega) (by have := HG1.out; have := HB.out; omega) (fun d e => by cases e; have := HG1.out; omega) c) (fun pre X h => h.1.1.2.2.1) HI1.out
          (fun x a' _ => ∃ y : Nat → Value, a' = { tmps := #[y 0, y 1, y 2, .pointer (some ⟨w.heap.size, 0, none⟩), y 4, y 5, .pointer (some ⟨w.heap.size + 1 + 1, 0, none⟩), .pointer (some ⟨w.heap.size + 3, 0, none⟩), .func (.func 59) #[] #[.pointer (some ⟨A, 0, none⟩), .pointer (some ⟨A + 1, 0, none⟩)], y 9, y 10, .pointer (some ⟨gT1, 0, none⟩), .pointer (some ⟨gN1, 0, none⟩), .pointer (some ⟨gN1 + 1, 0, none⟩), .int .i64 x, .int .u8 ((cg a x).1 : Nat), y 16, y 17, y 18, y 19, y 20, y 21, y 22, y 23, y 24, y 25, y 26, y 27, y 28, y 29, y 30, y 31, y 32, y 33, y 34, y 35, y 36, y 37, y 38, y 39, y 40, y 41, y 42, y 43, y 44, y 45, y 46, y 47, y 48, y 49, y 50, y 51, y 52, y 53, y 54, y 55, y 56, y 57, y 58, y 59, y 60, y 61, y 62, y 63, y 64, y 65, y 66, y 67, y 68, y 69, y 70, y 71, y 72, y 73, y 74, y 75, y 76, y 77, y 78, y 79, y 80, y 81, y 82, y 83, y 84, y 85, y 86, y 87, y 88, y 89, y 90, y 91, y 92, y 93, y 94, y 95, y 96, y 97, y 98, y 99, y 100, y 101, y 102, y 103, y 104, y 105, y 106, y 107, y 108, y 109, y 110, y 111, y 112, y 113, y 114, y 115, y 116, y 117, y 118, y 119, y 120, y 121, y 122, y 123, y 124, y 125, y 126, y 127, y 128, y 129, y 130, y 131, y 132, y 133, y 134, y 135, y 136, y 137, y 138, y 139, y 140, y 141, y 142, y 143], defers := [] })
          (fun x a' _ _ _ _ hs _ _ => hs)
          ?assign2 ?body2 ?done2 ?stop2
        case assign2 =>
          rintro l2 pre x X K _ _ hi hK
          gi_wp2_with fail
          exact hK _ _ (KeptM.refl _ _) (Below.refl _ _) hi (ex_frame (by rfl))
        case body2 =>
          rintro l2 pre x a' X hl2 ⟨hpre, hx, hs⟩ hlo ⟨⟨hE, kT, kN, kL⟩, hlt3, hmk⟩ ⟨y, rfl⟩
          obtain ⟨b9, o9, c9, e9, _, d0, d1⟩ := Cs.at hE.2.1 hx
          injection e9 with e9a e9b e9c
          subst e9a e9c
          have cA0 : X.cell? ⟨w.heap.size, 0, none⟩ = some (.slice (some ⟨b9, o9, none⟩) a.length ca) := cell_of_row X _ 0 _ _ _ hE.1.1
          have cU : X.cell? ⟨w.heap.size + 3, 0, none⟩ = some (.int .u64 (l1 : Nat)) := cell_of_row X _ 0 _ _ _ hE.1.2.2
          have cL : X.cell? ⟨gN1 + 1, 0, none⟩ = some (.int .i64 (lastI pre)) := cell_of_row X _ 0 _ _ _ kL
          have hxI : (x : Int) < (a.length : Int) := by omega
          have hxJ : ¬ (a.length : Int) ≤ (x : Int) := by omega
          have hla : lastI pre < (x : Int) := by rw [hpre]; exact lastI_lt a l1 x
          have hlb : ¬ (x : Int) ≤ lastI pre := by omega
          have hdb : decide ((x : Int) ≤ lastI pre) = false := decide_eq_false hlb
          have hdx : decide (a.length ≤ x) = false := decide_eq_false (by omega)
          have HG9 := Lib.hid (fun Z => rbelow_any (cg a x).2 l1 (cg_ok hE.2.1.1 x).2 HB.out.2.1 Z)
          rw [hs] at HG9
          have hpl : pre.length ≤ 200 := by rw [hpre]; have := knK_le a l1 x; have := HB.out; omega
          have HBD := Lib.hid (And.intro (And.intro hE (And.intro kT (And.intro kN kL))) (And.intro hlt3 (And.intro hmk (And.intro hpl (And.intro hpre (And.intro hx hl2))))))
          clear hE kT kN kL hlt3 hmk hpre hx hs hlo e9b hl2
          --P1
          generalize (cg a x).2 = p2 at d1 HG9
          gi_wp2_with fail
          refine wpIn_region_quiet_round l2 (by kernel_rfl) (by kernel_rfl) (by kernel_rfl) ?_
          iterate 25 (quiet_step_in (fail))
          refine wpQuietIn_step (fun _ _ _ _ => trivial) (fun K hK => ?_)
          go_simp
          apply Exists.intro
          refine ⟨fun _ => ?_, hK _ ?_⟩
          · gi_at_call 29
            exact CallsIn.quiet_of_same (callsIn_wide.2 ((HG9.out _).mono fun _ _ ⟨h, k⟩ => ⟨h, k.symm⟩))
          clear hK K
          iterate 2 (quiet_step_in (fail))
          refine wpQuietIn_nil ?_
          intro _ hw'
          obtain ⟨nq, hw''⟩ := hw'
          subst hw''
          obtain ⟨hH4, hlt3, hmk, hpl, hpre, hx, hl2⟩ := HBD.out
          obtain ⟨Xq, hXq⟩ : ∃ Xq, X.drewN nq = Xq := ⟨_, rfl⟩
          have hGq : X.grownBy Xq none := by rw [← hXq]; exact ⟨rfl, rfl, rfl, Nat.le_refl _, fun _ _ _ => rfl⟩
          have hBX : Below w.heap.size X Xq := by rw [← hXq]; exact below_drewN (Below.refl _ X) nq
          have hT4 := ta_kept (q := gN1 + 2) hH4 hmk hGq (by have := HG1.out; have := HB.out; omega) (by have := HG1.out; have := HB.out; omega) (by have := HG1.out; have := HB.out; omega) (by have := HG1.out; have := HB.out; omega) (by have := HG1.out; have := HB.out; omega) (by have := HG1.out; have := HB.out; omega) (fun d e => by cases e; have := HG1.out; omega) (fun r e => by cases e)
          rw [hXq]
          clear hXq hH4 cA0 cU cL d0 d1 HG9 hdb hdx hmk hx hpre hxI hxJ hla hlb hl2 HBD
          have hS := ta_set (x := x) (q := gN1) hT4.1 hT4.2 (by have := HG1.out; have := HB.out; omega) (by have := HG1.out; have := HB.out; omega) (by have := HG1.out; have := HB.out; omega) (by have := HG1.out; have := HB.out; omega) (by have := HG1.out; have := HB.out; omega) (Nat.le_refl _) (fun d e => by cases e; have := HG1.out; omega)
          have hwp : IntKind.i64.wrap ((pre.length : Int) + 1) = (pre.length : Int) + 1 := IntWalk.i64_in _ (by omega)
          have hX1 : KeptM (fun k => noM k ∨ k = W1.heap.size ∨ k = W1.heap.size + 1) X ((Xq.setCell ⟨gN1 + 1, 0, none⟩ (.int .i64 x)).setCell ⟨gN1, 0, none⟩ (.int .i64 ((pre.length : Int) + 1))) :=
            ((KeptM.grown hGq (fun r e => by cases e)).trans (KeptM.grown (grown_set' (grown_refl Xq (gN1 + 1)) 0 _) (fun r e h => by cases e; have := HG1.out; rcases h with h | h | h; exact h.elim; omega; omega))).trans (KeptM.grown (grown_set' (grown_refl _ gN1) 0 _) (fun r e h => by cases e; have := HG1.out; rcases h with h | h | h; exact h.elim; omega; omega))
          have hX2 : Below w.heap.size X ((Xq.setCell ⟨gN1 + 1, 0, none⟩ (.int .i64 x)).setCell ⟨gN1, 0, none⟩ (.int .i64 ((pre.length : Int) + 1))) := (hBX.setCell (p := ⟨gN1 + 1, 0, none⟩) (by have := HG1.out; simp; omega) _).setCell (p := ⟨gN1, 0, none⟩) (by have := HG1.out; simp; omega) _
          have cL := cell_of_row Xq _ 0 _ _ _ hT4.1.2.2.2
          have fL := frozen_of_row Xq _ 0 _ _ hT4.1.2.2.2
          have cN := cell_of_row _ _ 0 _ _ _ hS.2
          have fN := frozen_of_row _ _ 0 _ _ hS.2
          have cT2 := cell_of_row _ _ 0 _ _ _ hS.1.1.2.1
          have cN2 := cell_of_row _ _ 0 _ _ _ hS.1.1.2.2.1
          have hln : (((pre ++ [x]).length : Nat) : Int) = (pre.length : Int) + 1 := by simp
          rw [hln] at cN2
          have HFi := Lib.hid (And.intro hS.1 (And.intro hX1 (And.intro hX2 hln)))
          clear hS hX1 hX2 hT4 hGq hBX hln
          gi_wp2_with (first | (with_reducible refine And.intro (fun f h => (by cases h)) ?_) | fail)
          exact ⟨HFi.out.2.1, HFi.out.2.2.1, HFi.out.1.1, fun e => absurd e (by decide), HFi.out.1.2⟩
        case done2 =>
          rintro D1 xs X1 hD1 rfl ⟨⟨hE, kT, kN, kL⟩, _, hmk⟩ hK1
          have hK0 := hmk D0 rfl
          have cT : X1.cell? ⟨gT1, 0, none⟩ = some (.int .i64 1) := cell_of_row X1 _ 0 _ _ _ kT
          have cN : X1.cell? ⟨gN1, 0, none⟩ = some (.int .i64 ((knK a l1 a.length).length : Nat)) := cell_of_row X1 _ 0 _ _ _ kN
          obtain ⟨gU, hgU⟩ : ∃ g, X1.heap.size = g := ⟨_, rfl⟩
          obtain ⟨X2, hX2⟩ : ∃ Z, X1.alloc (.cells #[.int .i64 2] 3) = Z := ⟨_, rfl⟩
          have hXZ : Below X1.heap.size X1 X2 := by rw [← hX2]; exact balloc (Below.refl _ _) _
          have kU : Blk X2 gU 3 #[.int .i64 2] := by rw [← hX2, ← hgU]; exact Blk.new X1 _ _
          have hE2 := hE.new hXZ
          have hd0 := (hXZ.block D0 (Array.getElem?_eq_some_iff.1 hK0).1).trans hK0
          have hd1 := (hXZ.block D1 (Array.getElem?_eq_some_iff.1 hK1).1).trans hK1
          have hne : D0 < D1 ∧ w.heap.size + 3 < D0 := by have := HG1.out; have := HT1.out.2.2.2; exact ⟨by omega, by omega⟩
          have HQ2 := Lib.hid (And.intro hgU hX2)
          have HR := Lib.hid hE2.1.2.1
          have HD := Lib.hid (And.intro hd0 (And.intro hd1 (And.intro hne hE2.2.2.2)))
          have cU := cell_of_row X2 _ 0 _ _ _ kU
          clear hXZ kU hE2 hd0 hd1 hne hgU hX2 hE kT kN kL hmk hK0 hK1 hD1 HT1 HG1 HI1 HM1
          go_wp2_with fail
          rw [HQ2.out.1, HQ2.out.2]
          clear HQ2 cT cN
          rw [rounds_succ]
          go_wp2_with (first | (go_at_call 7; refine (tworks_any _).mono ?_; rintro e wz ⟨rfl, hz⟩; have hR := HR.out.keep hz; have f0 := frozen_of_row _ _ 0 _ _ hR; have d0 := cell_of_row _ _ 0 _ _ _ hR; have HZ := Lib.hid (And.intro hR hz); clear hz hR) | fail)
          have hz := HZ.out.2
          obtain ⟨hd0, hd1, ⟨hne, hwD⟩, hwX⟩ := HD.out
          have hDY : (wz.setCell ⟨w.heap.size + 1 + 1, 0, none⟩ (.bool true)).heap[D0]? = some (.deferred (some [])) := (Below.heap_setCell wz ⟨w.heap.size + 1 + 1, 0, none⟩ _ D0 (by simp; omega)).trans ((hz.block D0 (Array.getElem?_eq_some_iff.1 hd0).1).trans hd0)
          have hEY : (wz.setCell ⟨w.heap.size + 1 + 1, 0, none⟩ (.bool true)).heap[D1]? = some (.deferred (some [])) := (Below.heap_setCell wz ⟨w.heap.size + 1 + 1, 0, none⟩ _ D1 (by simp; omega)).trans ((hz.block D1 (Array.getElem?_eq_some_iff.1 hd1).1).trans hd1)
          have bY : Blk (wz.setCell ⟨w.heap.size + 1 + 1, 0, none⟩ (.bool true)) (w.heap.size + 1 + 1) 4 #[.bool true] := heap_setCell_same wz _ 0 _ _ _ HZ.out.1
          have hBY : Below w.heap.size w (wz.setCell ⟨w.heap.size + 1 + 1, 0, none⟩ (.bool true)) := (bstep hwX hz).setCell (p := ⟨w.heap.size + 1 + 1, 0, none⟩) (by simp; omega) _
          obtain ⟨Y9, hY9⟩ : ∃ Y9, wz.setCell ⟨w.heap.size + 1 + 1, 0, none⟩ (.bool true) = Y9 := ⟨_, rfl⟩
          rw [hY9] at hDY hEY bY hBY ⊢
          clear hY9 hd0 hd1 hwX hz HZ HD f0 d0
          have hD2' : (Y9.putObj D1 (.deferred none)).heap[D0]? = some (.deferred (some [])) := (World.putObj_heap_other (by omega)).trans hDY
          have bY2 : Blk (Y9.putObj D1 (.deferred none)) (w.heap.size + 1 + 1) 4 #[.bool true] := bY.kept (grownBy_putObj' Y9 D1 _) (by intro e; cases e; omega)
          have bY3 : Blk ((Y9.putObj D1 (.deferred none)).putObj D0 (.deferred none)) (w.heap.size + 1 + 1) 4 #[.bool true] := bY2.kept (grownBy_putObj' _ D0 _) (by intro e; cases e; omega)
          have q0 := cell_of_row _ _ 0 _ _ _ bY3
          refine ⟨by simp, .inl ⟨_, _, rfl, run_takeDeferred hEY, ?_⟩⟩
          refine ⟨by simp, .inl ⟨_, _, rfl, run_takeDeferred hD2', ?_⟩⟩
          exact ⟨.bool true, by simp [results, Try.results5, go_sem, q0], rfl, (hBY.trans (below_put Y9 _ (by omega))).trans (below_put _ _ (by omega))⟩
        
        case stop2 =>
          rintro D1 c pre X1 hD1 _ ⟨_, ⟨_, h0, _⟩, _⟩ _
          exact absurd h0 (by decide)
end Go.Proofs.Ytkhdjlahfbmkoaa
