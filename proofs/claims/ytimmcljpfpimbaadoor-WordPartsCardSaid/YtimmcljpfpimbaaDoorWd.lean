/- Layer word: the iterator of a word's numbers, and the product of words, which goes over both words' numbers. -/
import Derived.Test.YtimmcljpfpimbaaDoorWc
import Derived.RangeFuncNested
import Derived.RangeFuncBound
import Derived.RangeFuncCalls
import Derived.RangeFuncLeaves
import Derived.Shelf.Abstract
import Derived.Shelf.RegionOpen
import Derived.OwnWalkIn
import Derived.TacticsInMore
import Derived.LoopNIn
import Derived.LoopIn
namespace Go.Proofs.YtimmcljpfpimbaaDoor
open Go.RowKit Go.Shelf
attribute [local go_sem] Oper.semAt_some

theorem index_k (a k : Nat) (hk : k < 4) (w : World) : (Instr.index 24 (W a) (.int .i64 k)).run Tryd.prog w = .ok (.int .u64 (lb a k)) w := by
  match k, hk with
  | 0, _ => exact ix0 _ _ _ _ w
  | 1, _ => exact ix1 _ _ _ _ w
  | 2, _ => exact ix2 _ _ _ _ w
  | 3, _ => exact ix3 _ _ _ _ w

set_option maxHeartbeats 1000000 in
theorem parts1_in (F : Fence) (n : Nat) (hF : F.fn 46) (hro : F.round = none) (hn : 1 ≤ n) (l Bn a : Nat) (Kp : World → World → Prop) (J Jx : List (Fin 4) → World → Prop)
    (hY : ∀ pre x W, J pre W → pre.length < 4 → YieldAt F (n - 1) Tryd.prog l #[.int .i64 (x.val : Nat), .int .u64 (lb a x.val)] W fun e W' =>
      (e = .returned (.bool true) ∧ J (pre ++ [x]) W' ∧ Kp W W') ∨ (e = .returned (.bool false) ∧ Jx (pre ++ [x]) W'))
    (w : World) (hB : w.heap[Bn]? = some (.cells (Wc a) 24 (0, 0))) (h0 : J [] w) :
    CallsIn F n Tryd.prog 46 #[.func (.yield l) #[] #[], .pointer (some ⟨Bn, 0, none⟩)] w fun e W' => (∃ v, e = .returned v) ∧
      ((∃ ys, ys = xs4 ∧ J ys W') ∨ (∃ pre, (∃ m, pre = xs4.take m) ∧ Jx pre W')) := by
  have c0 := cell_of_row w Bn 0 _ _ _ hB
  have c1 := cell_of_row w Bn 1 _ _ _ hB
  have c2 := cell_of_row w Bn 2 _ _ _ hB
  have c3 := cell_of_row w Bn 3 _ _ _ hB
  clear hB
  refine callsIn_of_wp Tryd.func46 rfl hF ?_ hro
  simp only [Tryd.ntmps46, List.size_toArray, List.length_cons, List.length_nil, Nat.reduceAdd, Nat.reduceSub, Array.replicate_succ, Array.replicate_zero, List.push_toArray, List.append_toArray, List.nil_append, List.cons_append]
  gi_wp2
  gi_loopw [6] (fun i wr => ∃ k : Nat, k ≤ 4 ∧ i = .int .i64 k ∧ J (xs4.take k) wr) (fun i _ => 4 - (intOf i).toNat)
  case atStart => exact ⟨0, by omega, rfl, h0⟩
  case round =>
    obtain ⟨k, hk, rfl, hJ⟩ := hrel
    by_cases hlt : k < 4
    · have hix := index_k a k hlt
      obtain ⟨fn, tmps, assign, body, hy, hR⟩ := hY (xs4.take k) ⟨k, hlt⟩ wr hJ (by rw [List.length_take]; show min k 4 < 4; omega)
      dsimp only at hy
      gi_wp2
      refine hR.mono ?_
      rintro e W3 (⟨rfl, hJ3, _⟩ | ⟨rfl, hJx3⟩)
      · gi_wp2
        go_roundw
        case rel => exact ⟨k + 1, by omega, by go_num, by rw [xs4_take k hlt]; exact hJ3⟩
        case measure => simp [intOf]; omega
      · gi_wp2
        refine bodyPost_ret (results_none rfl _ _ _) rfl ?_
        exact ⟨⟨_, rfl⟩, .inr ⟨_, ⟨k + 1, (xs4_take k hlt).symm⟩, hJx3⟩⟩
    · obtain rfl : k = 4 := by omega
      gi_wp2
      go_end0
      exact ⟨⟨_, rfl⟩, .inl ⟨xs4, rfl, hJ⟩⟩

/-- What Parts hands back goes over the word's numbers. -/
theorem parts_stops (F : Fence) (n : Nat) (hF : F.fn 46) (hro : F.round = none) (hn : 1 ≤ n) (Bn n₀ a : Nat) (w : World) (hBn : Bn < w.heap.size) (hB : w.heap[Bn]? = some (.cells (Wc a) 24 (0, 0))) :
    SeqStopsK F n Tryd.prog 46 #[.pointer (some ⟨Bn, 0, none⟩)] (fun x : Fin 4 => #[Value.int .i64 (x.val : Nat), Value.int .u64 (lb a x.val)]) (Below n₀) (fun ys => ys = xs4) (fun pre => ∃ m, pre = xs4.take m) 4 w := fun l J Jx W hW _ _ hY h0 =>
  parts1_in F n hF hro hn l Bn a (Below n₀) J Jx hY W ((hW.block Bn hBn).trans hB) h0

/-- A block of cells that may be written. -/
def Blk (X : World) (g : Nat) (t : TypeId) (cs : Array Value) : Prop := X.heap[g]? = some (.cells cs t (0, 0))
theorem Blk.kept {X Y : World} {row : Option Nat} {g : Nat} {t : TypeId} {cs : Array Value} (h : Blk X g t cs) (hg : X.grownBy Y row) (hne : some g ≠ row) : Blk Y g t cs :=
  (hg.block g (Array.getElem?_eq_some_iff.1 h).1 hne).trans h
theorem Blk.lt {X : World} {g : Nat} {t : TypeId} {cs : Array Value} (h : Blk X g t cs) : g < X.heap.size := (Array.getElem?_eq_some_iff.1 h).1
theorem Blk.alloc {X : World} {g : Nat} {t : TypeId} {cs : Array Value} (h : Blk X g t cs) (o : Obj) : Blk (X.alloc o) g t cs := (heap_alloc_old _ _ h.lt).trans h
theorem Blk.new (X : World) (t : TypeId) (cs : Array Value) : Blk (X.alloc (.cells cs t)) X.heap.size t cs := heap_alloc_new X _
theorem blk_own {β : Type} (g : Nat) (t : TypeId) (f : β → Array Value) : Own (fun s X => Blk X g t (f s)) := fun s X Y row hs hg hrow =>
  hs.kept hg (fun e' => by obtain ⟨o, ho, hc⟩ := hrow g e'.symm; rw [show X.heap[g]? = _ from hs] at ho; cases ho; cases hc)

theorem balloc' {n : Nat} {X : World} (h : n ≤ X.heap.size) (o : Obj) : Below n X (X.alloc o) := (Below.refl n X).alloc h o
theorem Dc_congr {s t : Nat} (wd : Int) (h : s % MM = t % MM) : Dc s wd = Dc t wd := by
  unfold Dc; rw [lb_congr h 0 (by omega), lb_congr h 1 (by omega), lb_congr h 2 (by omega), lb_congr h 3 (by omega)]

set_option maxRecDepth 100000 in
set_option maxHeartbeats 4000000 in
theorem mul_any (a b : Nat) (w : World) :
    Calls Tryd.prog 15 #[W a, W b] w fun e w' => e = .returned (W (a * b)) ∧ Below w.heap.size w w' := by
  refine (callsIn_wide (n := 20)).1 ?_
  refine callsIn_of_wp_marks Tryd.func15 rfl trivial ?_ rfl
  simp only [Tryd.ntmps15, List.size_toArray, List.length_cons, List.length_nil, Nat.reduceAdd, Nat.reduceSub, Array.replicate_succ, Array.replicate_zero, List.push_toArray, List.append_toArray, List.nil_append, List.cons_append]
  gi_wp2_with fail
  refine (wpIn_wide (n := 20)).2 (wp_scope_straight ((wpIn_wide (n := 20)).1 ?_))
  gi_wp2_with fail
  refine wpIn_label ?_
  gi_wp2_with (refine ⟨trivial, ?_⟩; gi_at_call 31; refine (parts_in Fence.wide (20 - 1) trivial rfl _ _).mono ?_; rintro e w' ⟨rfl, rfl⟩)
  have h0 : Blk (w.alloc (.cells (Wc a) 24)) w.heap.size 24 (Wc a) := Blk.new _ _ _
  obtain ⟨W1, hW1⟩ : ∃ W1, w.alloc (.cells (Wc a) 24) = W1 := ⟨_, rfl⟩
  obtain ⟨W2, hW2⟩ : ∃ W2, W1.alloc (.cells (Wc b) 24) = W2 := ⟨_, rfl⟩
  obtain ⟨W3, hW3⟩ : ∃ W3, W2.alloc (.cells #[.int .u64 0, .int .u64 0, .int .u64 0, .int .u64 0] 24) = W3 := ⟨_, rfl⟩
  obtain ⟨W4, hW4⟩ : ∃ W4, W3.alloc (.cells #[.int .u64 0, .int .u64 0, .int .u64 0, .int .u64 0, .int .i64 0] 62) = W4 := ⟨_, rfl⟩
  obtain ⟨W0, hW0⟩ : ∃ W0, W4.alloc (.cells (Wc a) 24) = W0 := ⟨_, rfl⟩
  have z1 : W1.heap.size = w.heap.size + 1 := by rw [← hW1]; simp
  have z2 : W2.heap.size = w.heap.size + 1 + 1 := by rw [← hW2]; simp [z1]
  have z3 : W3.heap.size = w.heap.size + 1 + 1 + 1 := by rw [← hW3]; simp [z2]
  have z4 : W4.heap.size = w.heap.size + 1 + 1 + 1 + 1 := by rw [← hW4]; simp [z3]
  have hsz : W0.heap.size = w.heap.size + 1 + 1 + 1 + 1 + 1 := by rw [← hW0]; simp [z4]
  have bB : Blk W0 (w.heap.size + 1) 24 (Wc b) := by rw [← hW0, ← hW4, ← hW3, ← hW2, ← z1]; exact (((Blk.new W1 _ _).alloc _).alloc _).alloc _
  have bR : Blk W0 (w.heap.size + 1 + 1) 24 #[.int .u64 0, .int .u64 0, .int .u64 0, .int .u64 0] := by rw [← hW0, ← hW4, ← hW3, ← z2]; exact ((Blk.new W2 _ _).alloc _).alloc _
  have bP : Blk W0 (w.heap.size + 1 + 1 + 1) 62 (Dc 0 0) := by
    rw [← hW0, ← hW4, ← z3]; unfold Dc; simp only [lb_zero]; exact (Blk.new W3 _ _).alloc _
  have bA : Blk W0 (w.heap.size + 1 + 1 + 1 + 1) 24 (Wc a) := by rw [← hW0, ← z4]; exact Blk.new W4 _ _
  have hB0 : Below w.heap.size w W0 := by rw [← hW0, ← hW4, ← hW3, ← hW2, ← hW1]; exact balloc (balloc (balloc (balloc (balloc (Below.refl _ _) _) _) _) _) _
  rw [hW1, hW2, hW3, hW4, hW0]
  clear hW0 hW1 hW2 hW3 hW4 z1 z2 z3 z4 h0
  refine wpIn_rangeFunc_ownH (F := Fence.wide) rfl (by omega) (gf := 46) (lb := #[.pointer (some ⟨w.heap.size + 1 + 1 + 1 + 1, 0, none⟩)]) rfl trivial (enters_of Tryd.func46 (by kernel_rfl) rfl)
    (parts_stops Fence.wide (20 - 1) trivial rfl (by omega) (w.heap.size + 1 + 1 + 1 + 1) w.heap.size a W0 bA.lt bA) belowK_t (belowK_b (by omega)) (Below.refl _ _) (fun _ => rfl)
    (fun pre X => ((Blk X (w.heap.size + 1 + 1 + 1) 62 (Dc (sumL (fun x : Fin 4 => rowF a b x.val) pre) 0) ∧ Blk X (w.heap.size + 1) 24 (Wc b)) ∧ Blk X (w.heap.size + 1 + 1) 24 #[.int .u64 0, .int .u64 0, .int .u64 0, .int .u64 0]) ∧ Below w.heap.size w X)
    (fun _ _ _ => False)
    (OwnFrom.and (OwnFrom.and (OwnFrom.and (Own.from (blk_own _ _ _) _) (Own.from (blk_own _ _ _) _)) (Own.from (blk_own _ _ _) _)) (ownFrom_below (Nat.le_refl _) (by omega)))
    (fun _ _ _ _ _ hs _ _ => hs)
    ⟨⟨⟨bP, bB⟩, bR⟩, hB0⟩
    (fun x a' X => ∃ Bx, w.heap.size + 1 + 1 + 1 < Bx ∧ (Blk X Bx 3 #[.int .i64 (x.val : Nat)] ∧ Blk X (Bx + 1) 22 #[.int .u64 (lb a x.val)]) ∧ a' = { tmps := #[W a, W b, .pointer (some ⟨w.heap.size, 0, none⟩), .pointer (some ⟨w.heap.size + 1, 0, none⟩), .pointer (some ⟨w.heap.size + 1 + 1, 0, none⟩), .pointer (some ⟨w.heap.size + 1 + 1 + 1, 0, none⟩), .pointer (some ⟨Bx, 0, none⟩), .pointer (some ⟨Bx + 1, 0, none⟩), undef, undef, undef, undef, W a, .func (.func 46) #[] #[.pointer (some ⟨w.heap.size + 1 + 1 + 1 + 1, 0, none⟩)], .int .i64 (x.val : Nat), .int .u64 (lb a x.val), undef, undef, undef, undef, undef, undef, undef, undef, undef, undef, undef, undef, undef, undef, undef, undef, undef, undef, undef, undef, undef, undef, undef, undef, undef, undef, undef, undef, undef], defers := [] })
    (fun x a' _ X Y row hs hg hr => by obtain ⟨Bx, h1, ⟨h2, h3⟩, h4⟩ := hs; exact ⟨Bx, h1, ⟨blk_own Bx _ (fun (_ : Unit) => #[Value.int .i64 (x.val : Nat)]) () X Y row h2 hg (fun r e => (hr r e).2), blk_own (Bx + 1) _ (fun (_ : Unit) => #[Value.int .u64 (lb a x.val)]) () X Y row h3 hg (fun r e => (hr r e).2)⟩, h4⟩)
    ?assign ?body ?done ?stop
  case assign =>
    rintro l pre x X K ⟨⟨⟨bP1, bB1⟩, bR1⟩, hB1⟩ hK
    gi_wp2
    exact hK _ _ (((KeepsOthers.alloc _ _).trans (KeepsOthers.alloc _ _)).from _) (((Below.refl _ X).alloc hB1.size _).alloc (by have := hB1.size; simp; omega) _) ⟨⟨⟨(bP1.alloc _).alloc _, (bB1.alloc _).alloc _⟩, (bR1.alloc _).alloc _⟩, balloc (balloc hB1 _) _⟩ ⟨X.heap.size, bP1.lt, ⟨(Blk.new X _ _).alloc _, by have := Blk.new (X.alloc (.cells #[.int .i64 (x.val : Nat)] 3)) 22 #[.int .u64 (lb a x.val)]; simpa using this⟩, rfl⟩
  case body =>
    rintro l pre x a' X hl ⟨r, hr⟩ ⟨⟨⟨bP1, bB1⟩, bR1⟩, hB1⟩ ⟨Bx, hBx, ⟨bi, bp⟩, rfl⟩ hlt
    have hsW := hB1.size
    have hx := x.isLt
    have q0 := cell_of_row X _ 0 _ _ _ bB1
    have q1 := cell_of_row X _ 1 _ _ _ bB1
    have q2 := cell_of_row X _ 2 _ _ _ bB1
    have q3 := cell_of_row X _ 3 _ _ _ bB1
    gi_wp2_with (refine ⟨trivial, ?_⟩; gi_at_call 31; refine (CallsIn.inRound l (parts_in Fence.wide (20 - 1 - 1 - 1) trivial rfl _ _)).mono ?_; rintro e w' ⟨rfl, rfl⟩)
    clear q0 q1 q2 q3
    have hr' : (X.alloc (.cells (Wc b) 24)).heap[l]? = some (.loop r) := (Below.heap_alloc X _ l (Array.getElem?_eq_some_iff.1 hr).1).trans hr
    refine wpIn_rangeFunc_ownN (l₀ := l) (r₀ := r) rfl hr' (by omega) (gf := 46) (lb := #[.pointer (some ⟨X.heap.size, 0, none⟩)]) rfl trivial (enters_of Tryd.func46 (by kernel_rfl) rfl)
      ((parts_stops Fence.wide (20 - 1 - 1 - 1) trivial rfl (by omega) X.heap.size w.heap.size b _ (by simp) (Blk.new X _ _)).inRound l) belowK_t (belowK_b (by simp; omega)) (Below.refl _ _) (fun _ => rfl)
      (fun pre' Y => ((Blk Y (w.heap.size + 1 + 1 + 1) 62 (Dc (sumL (fun x : Fin 4 => rowF a b x.val) pre + sumL (fun y : Fin 4 => cI a b x.val y.val) pre') 0) ∧ (Blk Y Bx 3 #[.int .i64 (x.val : Nat)] ∧ Blk Y (Bx + 1) 22 #[.int .u64 (lb a x.val)])) ∧ (Blk Y (w.heap.size + 1) 24 (Wc b) ∧ Blk Y (w.heap.size + 1 + 1) 24 #[.int .u64 0, .int .u64 0, .int .u64 0, .int .u64 0])) ∧ (Below w.heap.size X Y ∧ KeepsFrom W0.heap.size X Y))
      (fun c pre' Y => ((c = .exit 1 ∧ ∃ q y, pre' = q ++ [y] ∧ 4 ≤ x.val + y.val) ∧ Blk Y (w.heap.size + 1 + 1 + 1) 62 (Dc (sumL (fun x : Fin 4 => rowF a b x.val) pre + sumL (fun y : Fin 4 => cI a b x.val y.val) pre'.dropLast) 0)) ∧ ((Blk Y (w.heap.size + 1) 24 (Wc b) ∧ Blk Y (w.heap.size + 1 + 1) 24 #[.int .u64 0, .int .u64 0, .int .u64 0, .int .u64 0]) ∧ (Below w.heap.size X Y ∧ KeepsFrom W0.heap.size X Y)))
      (OwnFrom.and (OwnFrom.and (OwnFrom.and (Own.from (blk_own _ _ _) _) (OwnFrom.and (Own.from (blk_own _ _ _) _) (Own.from (blk_own _ _ _) _))) (OwnFrom.and (Own.from (blk_own _ _ _) _) (Own.from (blk_own _ _ _) _))) (OwnFrom.and (ownFrom_below hsW (by simp; omega)) (ownFrom_keepsFrom (by simp))))
      (fun c => OwnFrom.and (OwnFrom.and (ownFrom_pure _ _) (Own.from (blk_own _ _ _) _)) (OwnFrom.and (OwnFrom.and (Own.from (blk_own _ _ _) _) (Own.from (blk_own _ _ _) _)) (OwnFrom.and (ownFrom_below hsW (by simp; omega)) (ownFrom_keepsFrom (by simp)))))
      ⟨⟨⟨bP1.alloc _, bi.alloc _, bp.alloc _⟩, bB1.alloc _, bR1.alloc _⟩, balloc' hsW _, (KeepsOthers.alloc _ _).from _⟩
      (fun y a'' _ => a'' = { tmps := #[W a, W b, .pointer (some ⟨w.heap.size, 0, none⟩), .pointer (some ⟨w.heap.size + 1, 0, none⟩), .pointer (some ⟨w.heap.size + 1 + 1, 0, none⟩), .pointer (some ⟨w.heap.size + 1 + 1 + 1, 0, none⟩), .pointer (some ⟨Bx, 0, none⟩), .pointer (some ⟨Bx + 1, 0, none⟩), .int .i64 (y.val : Nat), .int .u64 (lb b y.val), undef, undef, W a, .func (.func 46) #[] #[.pointer (some ⟨w.heap.size + 1 + 1 + 1 + 1, 0, none⟩)], .int .i64 (x.val : Nat), .int .u64 (lb a x.val), W b, .func (.func 46) #[] #[.pointer (some ⟨X.heap.size, 0, none⟩)], .int .i64 (y.val : Nat), .int .u64 (lb b y.val), undef, undef, undef, undef, undef, undef, undef, undef, undef, undef, undef, undef, undef, undef, undef, undef, undef, undef, undef, undef, undef, undef, undef, undef, undef], defers := [] })
      (fun _ _ _ _ _ _ hs _ _ => hs)
      ?assign2 ?body2 ?done2 ?stop2
    case assign2 =>
      rintro l2 pre' y Y K hi hK
      gi_wp2
      exact hK _ _ (KeepsFrom.refl _ _) (Below.refl _ _) hi rfl
    case body2 =>
      rintro l2 pre' y a'' Y _ _ ⟨⟨⟨bP2, bi2, bp2⟩, bB2, bR2⟩, hBX, hKF⟩ rfl _
      have hy := y.isLt
      have ci := cell_of_row Y _ 0 _ _ _ bi2
      have cp := cell_of_row Y _ 0 _ _ _ bp2
      by_cases h4 : 4 ≤ x.val + y.val
      · gi_wp2
        exact ⟨KeepsFrom.refl _ _, ⟨⟨rfl, pre', y, rfl, h4⟩, by rw [List.dropLast_concat]; exact bP2⟩, ⟨bB2, bR2⟩, hBX, hKF⟩
      · have hPX := bP1.lt
        have hPY := bP2.lt
        have hYs : w.heap.size ≤ Y.heap.size := by omega
        gi_wp2_with (refine ⟨trivial, ?_⟩; gi_at_call 37; refine (CallsIn.inRound l2 (CallsIn.inRound l (callsIn_wide.2 (mul64_any a x.val b y.val _)))).mono ?_; rintro e w1 ⟨rfl, rfl⟩)
        refine ⟨trivial, ?_⟩
        refine (CallsIn.inRound l2 (CallsIn.inRound l (callsIn_wide.2 (addAt_ij (sumL (fun x : Fin 4 => rowF a b x.val) pre + sumL (fun y : Fin 4 => cI a b x.val y.val) pre') x.val y.val (loN a x.val b y.val) (w.heap.size + 1 + 1 + 1) 0 (by omega) (loN_lt _ _ _ _) _ bP2)))).mono ?_
        rintro e Y1 ⟨rfl, bP3, hg1⟩
        have bi3 := bi2.kept hg1 (by simp; omega)
        have bp3 := bp2.kept hg1 (by simp; omega)
        have ci1 := cell_of_row Y1 _ 0 _ _ _ bi3
        clear ci cp
        gi_wp2_with fail
        refine ⟨trivial, ?_⟩
        refine (CallsIn.inRound l2 (CallsIn.inRound l (callsIn_wide.2 (addAt_ij1 _ x.val y.val (hiN a x.val b y.val) (w.heap.size + 1 + 1 + 1) 0 (by omega) (hiN_lt _ _ _ _) _ bP3)))).mono ?_
        rintro e Y2 ⟨rfl, bP4, hg2⟩
        gi_wp2
        have hbY : Below w.heap.size Y Y2 := ((Below.refl _ Y).grown hg1 hYs (fun k e => by cases e; omega)).grown hg2 (by have := hg1.size; omega) (fun k e => by cases e; omega)
        have hk : ∀ B, w.heap.size + 1 + 1 + 1 < B → KeepsFrom B Y Y2 := fun B hB => (KeepsFrom.of_grownBy hg1 (fun j e => by cases e; exact hB)).trans (KeepsFrom.of_grownBy hg2 (fun j e => by cases e; exact hB))
        refine ⟨hk _ (by simp; omega), hbY, ⟨⟨?_, bi3.kept hg2 (by simp; omega), bp3.kept hg2 (by simp; omega)⟩, (bB2.kept hg1 (by simp)).kept hg2 (by simp), (bR2.kept hg1 (by simp)).kept hg2 (by simp)⟩, hBX.trans hbY, hKF.trans (hk _ (by omega))⟩
        rw [sumL_snoc, ← cI_halves, ← Nat.add_assoc, ← Nat.add_assoc]
        exact bP4
    case done2 =>
      rintro ys' Y rfl ⟨⟨⟨bP2, bi2, bp2⟩, bB2, bR2⟩, hBX, hKF⟩
      gi_wp2
      exact ⟨hKF, hBX, ⟨⟨by rw [sumL_snoc, ← sum_row]; exact bP2, bB2⟩, bR2⟩, hB1.trans hBX⟩
    case stop2 =>
      rintro c pre' Y ⟨m, hm⟩ ⟨⟨⟨rfl, q, y, hq, h4⟩, bP2⟩, ⟨bB2, bR2⟩, hBX, hKF⟩
      gi_wp2
      have e : Dc (sumL (fun x : Fin 4 => rowF a b x.val) pre + sumL (fun y : Fin 4 => cI a b x.val y.val) pre'.dropLast) 0 = Dc (sumL (fun x : Fin 4 => rowF a b x.val) (pre ++ [x])) 0 := by
        refine Dc_congr 0 ?_
        rw [sumL_snoc, Nat.add_mod, hq, List.dropLast_concat, far_row a b x m q y (by rw [← hm, hq]) h4, ← Nat.add_mod]
      exact ⟨hKF, hBX, ⟨⟨by rw [← e]; exact bP2, bB2⟩, bR2⟩, hB1.trans hBX⟩
  case done =>
    rintro D zs X hD rfl ⟨⟨⟨bP1, bB1⟩, bR1⟩, hB1⟩ hK
    have bP : Blk X (w.heap.size + 1 + 1 + 1) 62 (Dc (a * b) 0) := by rw [← Dc_congr 0 (sum_rows a b)]; exact bP1
    have q0 := (cell_of_row X _ 0 _ _ _ bP).trans (show (Dc (a * b) 0)[0]? = some (.int .u64 (lb (a * b) 0)) from rfl)
    have q1 := (cell_of_row X _ 1 _ _ _ bP).trans (show (Dc (a * b) 0)[1]? = some (.int .u64 (lb (a * b) 1)) from rfl)
    have q2 := (cell_of_row X _ 2 _ _ _ bP).trans (show (Dc (a * b) 0)[2]? = some (.int .u64 (lb (a * b) 2)) from rfl)
    have q3 := (cell_of_row X _ 3 _ _ _ bP).trans (show (Dc (a * b) 0)[3]? = some (.int .u64 (lb (a * b) 3)) from rfl)
    have r0 := cell_of_row X _ 0 _ _ _ bR1
    have r1 := cell_of_row X _ 1 _ _ _ bR1
    have r2 := cell_of_row X _ 2 _ _ _ bR1
    have r3 := cell_of_row X _ 3 _ _ _ bR1
    have f0 := frozen_of_row X _ 0 _ _ bR1
    have f1 := frozen_of_row X _ 1 _ _ bR1
    have f2 := frozen_of_row X _ 2 _ _ bR1
    have f3 := frozen_of_row X _ 3 _ _ bR1
    gi_wp2
    have bY : Blk ((((X.setCell ⟨w.heap.size + 1 + 1, 0, none⟩ (.int .u64 (lb (a * b) 0))).setCell ⟨w.heap.size + 1 + 1, 1, none⟩ (.int .u64 (lb (a * b) 1))).setCell ⟨w.heap.size + 1 + 1, 2, none⟩ (.int .u64 (lb (a * b) 2))).setCell ⟨w.heap.size + 1 + 1, 3, none⟩ (.int .u64 (lb (a * b) 3))) (w.heap.size + 1 + 1) 24 (Wc (a * b)) :=
      heap_setCell_same _ _ 3 _ _ _ (heap_setCell_same _ _ 2 _ _ _ (heap_setCell_same _ _ 1 _ _ _ (heap_setCell_same X _ 0 _ _ _ bR1)))
    have hKY := ((((KeepsOthers.setCell X ⟨w.heap.size + 1 + 1, 0, none⟩ (.int .u64 (lb (a * b) 0))).trans (KeepsOthers.setCell _ ⟨w.heap.size + 1 + 1, 1, none⟩ (.int .u64 (lb (a * b) 1)))).trans (KeepsOthers.setCell _ ⟨w.heap.size + 1 + 1, 2, none⟩ (.int .u64 (lb (a * b) 2)))).trans (KeepsOthers.setCell _ ⟨w.heap.size + 1 + 1, 3, none⟩ (.int .u64 (lb (a * b) 3)))).same D _ hK rfl
    have hBY : Below w.heap.size w ((((X.setCell ⟨w.heap.size + 1 + 1, 0, none⟩ (.int .u64 (lb (a * b) 0))).setCell ⟨w.heap.size + 1 + 1, 1, none⟩ (.int .u64 (lb (a * b) 1))).setCell ⟨w.heap.size + 1 + 1, 2, none⟩ (.int .u64 (lb (a * b) 2))).setCell ⟨w.heap.size + 1 + 1, 3, none⟩ (.int .u64 (lb (a * b) 3))) := (((hB1.setCell (p := ⟨w.heap.size + 1 + 1, 0, none⟩) (by simp; omega) _).setCell (p := ⟨w.heap.size + 1 + 1, 1, none⟩) (by simp; omega) _).setCell (p := ⟨w.heap.size + 1 + 1, 2, none⟩) (by simp; omega) _).setCell (p := ⟨w.heap.size + 1 + 1, 3, none⟩) (by simp; omega) _
    obtain ⟨Y, hY⟩ : ∃ Y, (((X.setCell ⟨w.heap.size + 1 + 1, 0, none⟩ (.int .u64 (lb (a * b) 0))).setCell ⟨w.heap.size + 1 + 1, 1, none⟩ (.int .u64 (lb (a * b) 1))).setCell ⟨w.heap.size + 1 + 1, 2, none⟩ (.int .u64 (lb (a * b) 2))).setCell ⟨w.heap.size + 1 + 1, 3, none⟩ (.int .u64 (lb (a * b) 3)) = Y := ⟨_, rfl⟩
    rw [hY] at bY hKY hBY ⊢
    clear hY q0 q1 q2 q3 r0 r1 r2 r3 f0 f1 f2 f3
    have bZ : Blk (Y.putObj D (.deferred none)) (w.heap.size + 1 + 1) 24 (Wc (a * b)) := bY.kept (grownBy_putObj' Y D _) (by intro e; cases e; omega)
    have q0 := cell_of_row _ _ 0 _ _ _ bZ
    have q1 := cell_of_row _ _ 1 _ _ _ bZ
    have q2 := cell_of_row _ _ 2 _ _ _ bZ
    have q3 := cell_of_row _ _ 3 _ _ _ bZ
    rw [Exit.noGoto_ret]
    refine ⟨by simp, .inl ⟨_, _, rfl, run_takeDeferred hKY, ?_⟩⟩
    exact ⟨W (a * b), by simp [results, Tryd.results15, go_sem, q0, q1, q2, q3], rfl, hBY.trans (belowK_b (w := w) (Nat.le_refl _) Y D _ _ (by omega) hKY rfl rfl)⟩
  case stop =>
    rintro D c pre X _ _ h _
    exact h.elim

end Go.Proofs.YtimmcljpfpimbaaDoor
