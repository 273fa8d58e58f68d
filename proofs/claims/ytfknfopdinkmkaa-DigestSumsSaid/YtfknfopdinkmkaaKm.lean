/- digest: padded, of no bytes. -/
import Derived.Test.YtfknfopdinkmkaaKl
import Derived.Test.YtfknfopdinkmkaaTn
import Derived.Deep.WholeRow
import Derived.Laws.Tables
import Derived.Stop.RegionWithIn
import Derived.Sort.LoopGhostIn
namespace Go.Proofs.Ytfknfopdinkmkaa
open Go.RowKit Go.Shelf
attribute [local go_sem] Oper.semAt_some
attribute [local irreducible] ln rot
theorem pieces_any (x : Option Addr) (n cap : Nat) (w : World) :
    Calls Try.prog 31 #[.slice x n cap] w fun e w' => e = .returned (.func (.func 39) #[] #[.pointer (some ⟨w.heap.size, 0, none⟩)]) ∧ w' = w.alloc (.cells #[.slice x n cap] 45) := by
  go_enter Try.func31, Try.ntmps31
  go_wp2
  go_ret
  exact ⟨rfl, rfl⟩
/-- The bytes behind no bytes. -/
def padB : Nat → Nat := fun p => if p = 0 then 1 else if p = 135 then 128 else 0
theorem padB_lt (k : Nat) (_h : k < 136) : padB k < 256 := by
  unfold padB
  by_cases h1 : k = 0
  · rw [if_pos h1]; omega
  · rw [if_neg h1]
    by_cases h2 : k = 135
    · rw [if_pos h2]; omega
    · rw [if_neg h2]; omega
theorem wpIn_load_rowF {F : Fence} (hF : ∀ f, F.fn f) {P : Program} {n : Nat} {op : Oper} {a : Act} {w : World} {K : Act → World → Prop} {Q : Exit → Act → World → Prop} (ty : TypeId) (x : Operand) (ho : op.op = .load ty x)
    (b o : Nat) (hx : a.eval x = .pointer (some ⟨b, o, none⟩)) (cs : List Value) (d : TypeDesc) (hc : w.rangeAt b o cs)
    (hu : P.underlying ty = some d) (hd : d.isRow = true) (hi : (P.info? ty).map (·.size) = some cs.length)
    (h : K (a.put op.dst (.agg cs.toArray)) w) : op.wpIn F n P a w K Q := by
  refine ⟨fun _ _ => hF _, ?_⟩
  rw [Oper.semAt_plain F _ _ (fun c e => by rw [ho] at e; cases e)]
  unfold execOp
  simp only [ho, hx, Instr.loadAt, Instr.sureAddr, Sem.run_bind, Sem.run_pure, Result.andThen_ok, run_loadVar_mid w b o ty cs d hc hu hd hi]
  exact h
theorem wpIn_load_rowA {F : Fence} (hF : ∀ f, F.fn f) {P : Program} {n : Nat} {op : Oper} {a : Act} {w : World} {K : Act → World → Prop} {Q : Exit → Act → World → Prop} (ty : TypeId) (x : Operand) (ho : op.op = .load ty x)
    (b o : Nat) (hx : a.eval x = .pointer (some ⟨b, o, none⟩)) (cs : Array Value) (d : TypeDesc) (hc : w.rangeAt b o cs.toList)
    (hu : P.underlying ty = some d) (hd : d.isRow = true) (hi : (P.info? ty).map (·.size) = some cs.size)
    (h : K (a.put op.dst (.agg cs)) w) : op.wpIn F n P a w K Q :=
  wpIn_load_rowF hF ty x ho b o hx cs.toList d hc hu hd hi (by rwa [Array.toArray_toList])
theorem wpIn_store_rowF {F : Fence} (hF : ∀ f, F.fn f) {P : Program} {n : Nat} {o : Oper} {a : Act} {w : World} {K : Act → World → Prop} {Q : Exit → Act → World → Prop} (ty : TypeId) (x y : Operand) (ho : o.op = .store ty x y)
    (g : Nat) (cells : Array Value) (hx : a.eval x = .pointer (some ⟨g, 0, none⟩)) (hy : a.eval y = .agg cells)
    (t : TypeId) (old : Array Value) (hg : w.heap[g]? = some (.cells old t (0, 0))) (hi : (P.info? ty).map (·.size) = some cells.size)
    (hold : old.size = cells.size) (h1 : cells.all (·.oneCell') = true)
    (h : K (a.put o.dst undef) (w.setRow g cells)) : o.wpIn F n P a w K Q := by
  refine ⟨fun _ _ => hF _, ?_⟩
  rw [Oper.semAt_plain F _ _ (fun c e => by rw [ho] at e; cases e)]
  unfold execOp
  simp only [ho, hx, hy, Instr.storeAt, Instr.sureAddr, Sem.run_bind, Sem.run_pure, Result.andThen_ok, run_storeVar_row w g t ty old cells hg hi hold h1]
  exact h

theorem blk_cells' {X Y : World} {g : Nat} {t : TypeId} {cs : Array Value} {row : Option Nat} (h : Blk X g t cs) (hg : X.grownBy Y row) (hr : ∀ r, row = some r → ∃ o : Obj, X.heap[r]? = some o ∧ o.isCells = false) : Blk Y g t cs :=
  h.kept hg (fun e => by obtain ⟨o, h1, h2⟩ := hr g e.symm; unfold Blk at h; rw [h] at h1; cases h1; cases h2)
theorem Abide.size {β : Type} (B N : Nat) : Abide B (fun (_ : β) X => N ≤ X.heap.size) := fun _ _ _ _ hs hg _ => Nat.le_trans hs hg.size
theorem pad_cells : ((Bc 136 (fun _ => 0)).setIfInBounds 0 (.int .u8 1)).setIfInBounds 135 (.int .u8 128) = Bc 136 padB := by kernel_rfl
set_option maxRecDepth 100000 in
set_option maxHeartbeats 4000000 in
theorem padded0_in (n : Nat) (hn : 4 ≤ n) (l A n₀ : Nat) (J Jx : List Unit → World → Prop) (w : World) (hn₀ : n₀ ≤ w.heap.size)
    (hA : Blk w A 45 #[.slice none 0 0]) (hJ : Abide w.heap.size J) (hJx : Abide w.heap.size Jx)
    (hY : ∀ pre (x : Unit) X, pre = [] → J pre X → YieldAt Fence.wide 0 Try.prog l #[.int .i64 0, .agg (Fc 17 (blP padB 136))] X fun e Y => (e = .returned (.bool true) ∧ J (pre ++ [x]) Y ∧ Kept w.heap.size X Y ∧ Below n₀ X Y) ∨ (e = .returned (.bool false) ∧ Jx (pre ++ [x]) Y ∧ Kept w.heap.size X Y))
    (h0 : J [] w) :
    CallsIn Fence.wide n Try.prog 30 #[.func (.yield l) #[] #[], .pointer (some ⟨A, 0, none⟩)] w fun e Y => (∃ v, e = .returned v) ∧
      ((∃ xs, xs = [()] ∧ J xs Y) ∨ (∃ pre, pre = [()] ∧ Jx pre Y)) := by
  refine callsIn_of_wp_marks Try.func30 rfl trivial ?_ rfl
  simp only [Try.ntmps30, List.size_toArray, List.length_cons, List.length_nil, Nat.reduceAdd, Nat.reduceSub, Array.replicate_succ, Array.replicate_zero, List.push_toArray, List.append_toArray, List.nil_append, List.cons_append]
  have c0 : w.cell? ⟨A, 0, none⟩ = some (.slice none 0 0) := cell_of_row w _ 0 _ _ _ hA
  have hlA := hA.lt
  gi_wp2_with fail
  refine (wpIn_wide (n := n)).2 (wp_scope_straight ((wpIn_wide (n := n)).1 ?_))
  gi_wp2_with fail
  refine wpIn_label ?_
  have hbox : Blk ((w.alloc (.cells #[.func (.yield l) #[] #[]] 62)).alloc (.cells #[.int .i64 0] 3)) w.heap.size 62 #[.func (.yield l) #[] #[]] := (Blk.new w _ _).alloc _
  have hat : Blk ((w.alloc (.cells #[.func (.yield l) #[] #[]] 62)).alloc (.cells #[.int .i64 0] 3)) (w.heap.size + 1) 3 #[.int .i64 0] := Blk.newS w _ _ _
  have hA2 := (hA.alloc (.cells #[.func (.yield l) #[] #[]] 62)).alloc (.cells #[.int .i64 0] 3)
  have hW := balloc (balloc (Below.refl w.heap.size w) (.cells #[.func (.yield l) #[] #[]] 62)) (.cells #[.int .i64 0] 3)
  have hj0 := hJ.alloc (.cells #[.int .i64 0] 3) (hJ.alloc (.cells #[.func (.yield l) #[] #[]] 62) h0)
  obtain ⟨w1, hw1⟩ : ∃ w1, (w.alloc (.cells #[.func (.yield l) #[] #[]] 62)).alloc (.cells #[.int .i64 0] 3) = w1 := ⟨_, rfl⟩
  rw [hw1] at hbox hat hA2 hW hj0 ⊢
  have c0 : w1.cell? ⟨A, 0, none⟩ = some (.slice none 0 0) := cell_of_row w1 _ 0 _ _ _ hA2
  have HX := Lib.hid (And.intro hbox (And.intro hat (And.intro hW hj0)))
  clear hbox hat hA2 hW hj0 hw1 hA h0
  gi_wp2_with fail
  refine ⟨trivial, fun _ => by omega, ?_⟩
  refine (callsIn_wide.2 (pieces_any none 0 0 _)).mono ?_
  rintro e V ⟨rfl, rfl⟩
  obtain ⟨hbox, hat, hW, hj0⟩ := HX.out
  clear HX c0
  have hbox2 := hbox.alloc (.cells #[.slice none 0 0] 45)
  have hat2 := hat.alloc (.cells #[.slice none 0 0] 45)
  have hS := Blk.new w1 45 #[.slice none 0 0]
  have hW2 := balloc hW (.cells #[.slice none 0 0] 45)
  have hj2 := hJ.alloc (.cells #[.slice none 0 0] 45) hj0
  have hlt := hat.lt
  clear hbox hat hW hj0
  obtain ⟨W0, hW0⟩ : ∃ W0, w1.alloc (.cells #[.slice none 0 0] 45) = W0 := ⟨_, rfl⟩
  rw [hW0] at hbox2 hat2 hS hW2 hj2 ⊢
  clear hW0
  generalize w1.heap.size = gs at hS hlt ⊢
  gi_wp2_with fail
  refine wpIn_rangeN (n := n) (by omega) (gf := 39) (lb := #[.pointer (some ⟨gs, 0, none⟩)]) rfl (enters_of Try.func39 (by kernel_rfl) rfl)
    (pieces0_seq (n - 1) n₀ gs (by omega) W0 hS) (Below.refl _ _) (Nat.le_trans hn₀ hW2.size) (fun _ => rfl)
    (fun pre X => (J pre X ∧ Blk X w.heap.size 62 #[.func (.yield l) #[] #[]]) ∧ Blk X (w.heap.size + 1) 3 #[.int .i64 (pre.length : Nat)] ∧ W0.heap.size ≤ X.heap.size)
    (fun c pre X => c = .exit 0 ∧ Jx pre X)
    (((hJ.mono (by have := hW2.size; omega)).and (Abide.blk hbox2.lt _ (fun _ => _))).and ((Abide.blk hat2.lt _ (fun pre => #[Value.int .i64 ((List.length pre : Nat) : Int)])).and (Abide.size _ _)))
    (fun c => (Abide.pure _ (fun _ => c = .exit 0)).and (hJx.mono (by have := hW2.size; omega)))
    (fun _ _ _ => trivial)
    ⟨⟨hj2, hbox2⟩, hat2, Nat.le_refl _⟩
    (fun N x a' X => ∃ gp, Blk X gp 66 (Bc 136 (fun _ => 0)) ∧ N ≤ gp ∧ a' = { tmps := #[.func (.yield l) #[] #[], .pointer (some ⟨A, 0, none⟩), .pointer (some ⟨w.heap.size, 0, none⟩), .pointer (some ⟨w.heap.size + 1, 0, none⟩), .int .i64 0, .pointer (some ⟨gp, 0, none⟩), .slice none 0 0, .func (.func 39) #[] #[.pointer (some ⟨gs, 0, none⟩)], .int .i64 0, .agg (Bc 136 (fun _ => 0)), undef, undef, undef, undef, undef, undef, undef, undef, undef, undef, undef, undef, undef, undef, undef, undef, undef, undef, undef], defers := [] })
    (fun N x a' _ X Y row hs hg hr => by obtain ⟨gp, h1, h2⟩ := hs; exact ⟨gp, blk_cells' h1 hg (fun r e => (hr r e).2), h2⟩)
    ?assign ?body ?done ?stop
  case assign =>
    rintro l2 pre x X K _ hi hK
    gi_wp2_with fail
    simp only [zero71, Result.andThen_ok, Oper.uponIn_value]
    rename_i K1 hK1
    refine hK1 _ _ ?_
    clear hK1 K1
    refine wpListIn_plain rfl fun K1 hK1 => ?_
    refine wpIn_store_rowF (fun _ => trivial) 66 (.tmp 5) (.tmp 9) rfl X.heap.size (Bc 136 (fun _ => 0)) rfl rfl 66 (Bc 136 (fun _ => 0)) (Blk.new X _ _) (by rw [info71, Bc_size]) rfl (Bc_one _ _) ?_
    rw [World.setRow_alloc_new]
    refine hK1 _ _ ?_
    clear hK1 K1
    refine wpListIn_nil ?_
    exact hK _ _ (Kept.alloc _ _ _) ((Below.refl n₀ X).alloc (Nat.le_trans hn₀ (Nat.le_trans hW2.size hi.2.2)) _) ⟨⟨hJ.alloc _ hi.1.1, hi.1.2.alloc _⟩, hi.2.1.alloc _, Nat.le_trans hi.2.2 (by simp)⟩ ⟨X.heap.size, Blk.new X _ _, Nat.le_refl _, rfl⟩
  case body =>
    rintro l2 N pre x a' X hl2 rfl hlo hWN hNX ⟨⟨hj, hbx⟩, hat, hle⟩ ⟨gp, hP, hgp, rfl⟩
    have d0 := (cell_of_row X _ 0 _ _ _ hP).trans (Bc_get 136 _ 0 (by omega))
    have d1 := (cell_of_row X _ 135 _ _ _ hP).trans (Bc_get 136 _ 135 (by omega))
    have f0 := frozen_of_row X _ 0 _ _ hP
    have f1 := frozen_of_row X _ 135 _ _ hP
    have g0 : bits .xor .u8 0 1 = 1 := by decide +kernel
    have g1 : bits .xor .u8 0 128 = 128 := by decide +kernel
    have hS1 := heap_setCell_same X gp 0 _ _ (.int .u8 1) hP
    have hS2 : Blk ((X.setCell ⟨gp, 0, none⟩ (.int .u8 1)).setCell ⟨gp, 135, none⟩ (.int .u8 128)) gp 66 (Bc 136 padB) := by
      have h := heap_setCell_same _ gp 135 _ _ (.int .u8 128) hS1
      rw [pad_cells] at h
      exact h
    have hG : X.grownBy ((X.setCell ⟨gp, 0, none⟩ (.int .u8 1)).setCell ⟨gp, 135, none⟩ (.int .u8 128)) (some gp) := grown_set' (grown_set' (grown_refl X gp) 0 _) 135 _
    have hne0 : w.heap.size ≠ gp := by have := hbox2.lt; omega
    have hne1 : w.heap.size + 1 ≠ gp := by have := hat2.lt; omega
    have hj3 : J [] ((X.setCell ⟨gp, 0, none⟩ (.int .u8 1)).setCell ⟨gp, 135, none⟩ (.int .u8 128)) := hJ _ _ _ _ hj hG (fun r e => by cases e; have := hW2.size; omega)
    have hbx3 := hbx.kept hG (fun e => hne0 (Option.some.inj e))
    have hat3 := hat.kept hG (fun e => hne1 (Option.some.inj e))
    have hkp : KeptN W0.heap.size N X ((X.setCell ⟨gp, 0, none⟩ (.int .u8 1)).setCell ⟨gp, 135, none⟩ (.int .u8 128)) := KeptN.grown hNX hG (fun r e => by cases e; exact .inr hgp)
    have hbl : Below n₀ X ((X.setCell ⟨gp, 0, none⟩ (.int .u8 1)).setCell ⟨gp, 135, none⟩ (.int .u8 128)) := (Below.refl n₀ X).grown hG (by have := hW2.size; omega) (fun k e => by cases e; have := hW2.size; omega)
    have HX := Lib.hid (And.intro hS2 (And.intro hj3 (And.intro hbx3 (And.intro hat3 (And.intro hkp hbl)))))
    clear hS1 hS2 hG hj3 hbx3 hat3 hkp hbl hP hj hbx hat
    gi_wp2_with fail
    obtain ⟨V, hV⟩ : ∃ V, (X.setCell ⟨gp, 0, none⟩ (.int .u8 1)).setCell ⟨gp, 135, none⟩ (.int .u8 128) = V := ⟨_, rfl⟩
    rw [hV] at HX ⊢
    clear hV d0 d1 f0 f1
    refine wpIn_region_round l2 (by kernel_rfl) (by kernel_rfl) ?_
    have hP := HX.out.1.drew'
    have cb : V.drew.cell? ⟨w.heap.size, 0, none⟩ = some (.func (.yield l) #[] #[]) := cell_of_row _ _ 0 _ _ _ HX.out.2.2.1.drew'
    have ca : V.drew.cell? ⟨w.heap.size + 1, 0, none⟩ = some (.int .i64 0) := cell_of_row _ _ 0 _ _ _ HX.out.2.2.2.1.drew'
    refine join_all (T := ?TK) (fun key => ?mk) ?kk
    case mk =>
      refine wpAnyIn_ready (rs := [0, 1, 2]) (by kernel_rfl) (by simp) ?_
      refine AllReadyIn.cons rfl (fun K hK => ?_) (AllReadyIn.cons rfl (fun K hK => ?_) (AllReadyIn.cons rfl (fun K hK => ?_) AllReadyIn.nil))
      · go_simp
        refine hK _ _ ?_
        clear hK K
        refine wpAnyIn_ready (rs := [1, 2]) (by kernel_rfl) (by simp) ?_
        refine AllReadyIn.cons rfl (fun K hK => ?_) (AllReadyIn.cons rfl (fun K hK => ?_) AllReadyIn.nil)
        · go_simp
          refine hK _ _ ?_
          clear hK K
          refine wpAnyIn_ready (rs := [2]) (by kernel_rfl) (by simp) ?_
          refine AllReadyIn.cons rfl (fun K hK => ?_) AllReadyIn.nil
          · refine wpIn_load_rowA (fun _ => trivial) 66 (.tmp 5) rfl gp 0 rfl (Bc 136 padB) _ hP.rangeAt und71 rfl (by rw [info71, Bc_size]) ?_
            refine hK _ _ ?_
            clear hK K
            refine wpAnyIn_ready (rs := [3]) (by kernel_rfl) (by simp) ?_
            refine AllReadyIn.cons rfl (fun K hK => ?_) AllReadyIn.nil
            · go_simp
              refine ⟨trivial, fun _ => by omega, (callsIn_wide.2 (dread_any padB padB_lt _)).mono ?_⟩
              rintro e wk ⟨rfl, hwk⟩
              refine hK _ _ ?_
              clear hK K
              have cb := (hwk.cell (p := ⟨w.heap.size, 0, none⟩) (by have := HX.out.2.2.1.lt; exact this)).trans cb
              have ca := (hwk.cell (p := ⟨w.heap.size + 1, 0, none⟩) (by have := HX.out.2.2.2.1.lt; exact this)).trans ca
              clear cb ca
              revert hwk
              revert wk
              exact key.out
        · refine wpIn_load_rowA (fun _ => trivial) 66 (.tmp 5) rfl gp 0 rfl (Bc 136 padB) _ hP.rangeAt und71 rfl (by rw [info71, Bc_size]) ?_
          refine hK _ _ ?_
          clear hK K
          refine wpAnyIn_ready (rs := [1, 3]) (by kernel_rfl) (by simp) ?_
          refine AllReadyIn.cons rfl (fun K hK => ?_) (AllReadyIn.cons rfl (fun K hK => ?_) AllReadyIn.nil)
          · go_simp
            refine hK _ _ ?_
            clear hK K
            refine wpAnyIn_ready (rs := [3]) (by kernel_rfl) (by simp) ?_
            refine AllReadyIn.cons rfl (fun K hK => ?_) AllReadyIn.nil
            · go_simp
              refine ⟨trivial, fun _ => by omega, (callsIn_wide.2 (dread_any padB padB_lt _)).mono ?_⟩
              rintro e wk ⟨rfl, hwk⟩
              refine hK _ _ ?_
              clear hK K
              have cb := (hwk.cell (p := ⟨w.heap.size, 0, none⟩) (by have := HX.out.2.2.1.lt; exact this)).trans cb
              have ca := (hwk.cell (p := ⟨w.heap.size + 1, 0, none⟩) (by have := HX.out.2.2.2.1.lt; exact this)).trans ca
              clear cb ca
              revert hwk
              revert wk
              exact key.out
          · go_simp
            refine ⟨trivial, fun _ => by omega, (callsIn_wide.2 (dread_any padB padB_lt _)).mono ?_⟩
            rintro e wk ⟨rfl, hwk⟩
            refine hK _ _ ?_
            clear hK K
            have cb := (hwk.cell (p := ⟨w.heap.size, 0, none⟩) (by have := HX.out.2.2.1.lt; exact this)).trans cb
            have ca := (hwk.cell (p := ⟨w.heap.size + 1, 0, none⟩) (by have := HX.out.2.2.2.1.lt; exact this)).trans ca
            refine wpAnyIn_ready (rs := [1]) (by kernel_rfl) (by simp) ?_
            refine AllReadyIn.cons rfl (fun K hK => ?_) AllReadyIn.nil
            · go_simp
              refine hK _ _ ?_
              clear hK K
              clear cb ca
              revert hwk
              revert wk
              exact key.out
      · go_simp
        refine hK _ _ ?_
        clear hK K
        refine wpAnyIn_ready (rs := [0, 2]) (by kernel_rfl) (by simp) ?_
        refine AllReadyIn.cons rfl (fun K hK => ?_) (AllReadyIn.cons rfl (fun K hK => ?_) AllReadyIn.nil)
        · go_simp
          refine hK _ _ ?_
          clear hK K
          refine wpAnyIn_ready (rs := [2]) (by kernel_rfl) (by simp) ?_
          refine AllReadyIn.cons rfl (fun K hK => ?_) AllReadyIn.nil
          · refine wpIn_load_rowA (fun _ => trivial) 66 (.tmp 5) rfl gp 0 rfl (Bc 136 padB) _ hP.rangeAt und71 rfl (by rw [info71, Bc_size]) ?_
            refine hK _ _ ?_
            clear hK K
            refine wpAnyIn_ready (rs := [3]) (by kernel_rfl) (by simp) ?_
            refine AllReadyIn.cons rfl (fun K hK => ?_) AllReadyIn.nil
            · go_simp
              refine ⟨trivial, fun _ => by omega, (callsIn_wide.2 (dread_any padB padB_lt _)).mono ?_⟩
              rintro e wk ⟨rfl, hwk⟩
              refine hK _ _ ?_
              clear hK K
              have cb := (hwk.cell (p := ⟨w.heap.size, 0, none⟩) (by have := HX.out.2.2.1.lt; exact this)).trans cb
              have ca := (hwk.cell (p := ⟨w.heap.size + 1, 0, none⟩) (by have := HX.out.2.2.2.1.lt; exact this)).trans ca
              clear cb ca
              revert hwk
              revert wk
              exact key.out
        · refine wpIn_load_rowA (fun _ => trivial) 66 (.tmp 5) rfl gp 0 rfl (Bc 136 padB) _ hP.rangeAt und71 rfl (by rw [info71, Bc_size]) ?_
          refine hK _ _ ?_
          clear hK K
          refine wpAnyIn_ready (rs := [0, 3]) (by kernel_rfl) (by simp) ?_
          refine AllReadyIn.cons rfl (fun K hK => ?_) (AllReadyIn.cons rfl (fun K hK => ?_) AllReadyIn.nil)
          · go_simp
            refine hK _ _ ?_
            clear hK K
            refine wpAnyIn_ready (rs := [3]) (by kernel_rfl) (by simp) ?_
            refine AllReadyIn.cons rfl (fun K hK => ?_) AllReadyIn.nil
            · go_simp
              refine ⟨trivial, fun _ => by omega, (callsIn_wide.2 (dread_any padB padB_lt _)).mono ?_⟩
              rintro e wk ⟨rfl, hwk⟩
              refine hK _ _ ?_
              clear hK K
              have cb := (hwk.cell (p := ⟨w.heap.size, 0, none⟩) (by have := HX.out.2.2.1.lt; exact this)).trans cb
              have ca := (hwk.cell (p := ⟨w.heap.size + 1, 0, none⟩) (by have := HX.out.2.2.2.1.lt; exact this)).trans ca
              clear cb ca
              revert hwk
              revert wk
              exact key.out
          · go_simp
            refine ⟨trivial, fun _ => by omega, (callsIn_wide.2 (dread_any padB padB_lt _)).mono ?_⟩
            rintro e wk ⟨rfl, hwk⟩
            refine hK _ _ ?_
            clear hK K
            have cb := (hwk.cell (p := ⟨w.heap.size, 0, none⟩) (by have := HX.out.2.2.1.lt; exact this)).trans cb
            have ca := (hwk.cell (p := ⟨w.heap.size + 1, 0, none⟩) (by have := HX.out.2.2.2.1.lt; exact this)).trans ca
            refine wpAnyIn_ready (rs := [0]) (by kernel_rfl) (by simp) ?_
            refine AllReadyIn.cons rfl (fun K hK => ?_) AllReadyIn.nil
            · go_simp
              refine hK _ _ ?_
              clear hK K
              clear cb ca
              revert hwk
              revert wk
              exact key.out
      · refine wpIn_load_rowA (fun _ => trivial) 66 (.tmp 5) rfl gp 0 rfl (Bc 136 padB) _ hP.rangeAt und71 rfl (by rw [info71, Bc_size]) ?_
        refine hK _ _ ?_
        clear hK K
        refine wpAnyIn_ready (rs := [0, 1, 3]) (by kernel_rfl) (by simp) ?_
        refine AllReadyIn.cons rfl (fun K hK => ?_) (AllReadyIn.cons rfl (fun K hK => ?_) (AllReadyIn.cons rfl (fun K hK => ?_) AllReadyIn.nil))
        · go_simp
          refine hK _ _ ?_
          clear hK K
          refine wpAnyIn_ready (rs := [1, 3]) (by kernel_rfl) (by simp) ?_
          refine AllReadyIn.cons rfl (fun K hK => ?_) (AllReadyIn.cons rfl (fun K hK => ?_) AllReadyIn.nil)
          · go_simp
            refine hK _ _ ?_
            clear hK K
            refine wpAnyIn_ready (rs := [3]) (by kernel_rfl) (by simp) ?_
            refine AllReadyIn.cons rfl (fun K hK => ?_) AllReadyIn.nil
            · go_simp
              refine ⟨trivial, fun _ => by omega, (callsIn_wide.2 (dread_any padB padB_lt _)).mono ?_⟩
              rintro e wk ⟨rfl, hwk⟩
              refine hK _ _ ?_
              clear hK K
              have cb := (hwk.cell (p := ⟨w.heap.size, 0, none⟩) (by have := HX.out.2.2.1.lt; exact this)).trans cb
              have ca := (hwk.cell (p := ⟨w.heap.size + 1, 0, none⟩) (by have := HX.out.2.2.2.1.lt; exact this)).trans ca
              clear cb ca
              revert hwk
              revert wk
              exact key.out
          · go_simp
            refine ⟨trivial, fun _ => by omega, (callsIn_wide.2 (dread_any padB padB_lt _)).mono ?_⟩
            rintro e wk ⟨rfl, hwk⟩
            refine hK _ _ ?_
            clear hK K
            have cb := (hwk.cell (p := ⟨w.heap.size, 0, none⟩) (by have := HX.out.2.2.1.lt; exact this)).trans cb
            have ca := (hwk.cell (p := ⟨w.heap.size + 1, 0, none⟩) (by have := HX.out.2.2.2.1.lt; exact this)).trans ca
            refine wpAnyIn_ready (rs := [1]) (by kernel_rfl) (by simp) ?_
            refine AllReadyIn.cons rfl (fun K hK => ?_) AllReadyIn.nil
            · go_simp
              refine hK _ _ ?_
              clear hK K
              clear cb ca
              revert hwk
              revert wk
              exact key.out
        · go_simp
          refine hK _ _ ?_
          clear hK K
          refine wpAnyIn_ready (rs := [0, 3]) (by kernel_rfl) (by simp) ?_
          refine AllReadyIn.cons rfl (fun K hK => ?_) (AllReadyIn.cons rfl (fun K hK => ?_) AllReadyIn.nil)
          · go_simp
            refine hK _ _ ?_
            clear hK K
            refine wpAnyIn_ready (rs := [3]) (by kernel_rfl) (by simp) ?_
            refine AllReadyIn.cons rfl (fun K hK => ?_) AllReadyIn.nil
            · go_simp
              refine ⟨trivial, fun _ => by omega, (callsIn_wide.2 (dread_any padB padB_lt _)).mono ?_⟩
              rintro e wk ⟨rfl, hwk⟩
              refine hK _ _ ?_
              clear hK K
              have cb := (hwk.cell (p := ⟨w.heap.size, 0, none⟩) (by have := HX.out.2.2.1.lt; exact this)).trans cb
              have ca := (hwk.cell (p := ⟨w.heap.size + 1, 0, none⟩) (by have := HX.out.2.2.2.1.lt; exact this)).trans ca
              clear cb ca
              revert hwk
              revert wk
              exact key.out
          · go_simp
            refine ⟨trivial, fun _ => by omega, (callsIn_wide.2 (dread_any padB padB_lt _)).mono ?_⟩
            rintro e wk ⟨rfl, hwk⟩
            refine hK _ _ ?_
            clear hK K
            have cb := (hwk.cell (p := ⟨w.heap.size, 0, none⟩) (by have := HX.out.2.2.1.lt; exact this)).trans cb
            have ca := (hwk.cell (p := ⟨w.heap.size + 1, 0, none⟩) (by have := HX.out.2.2.2.1.lt; exact this)).trans ca
            refine wpAnyIn_ready (rs := [0]) (by kernel_rfl) (by simp) ?_
            refine AllReadyIn.cons rfl (fun K hK => ?_) AllReadyIn.nil
            · go_simp
              refine hK _ _ ?_
              clear hK K
              clear cb ca
              revert hwk
              revert wk
              exact key.out
        · go_simp
          refine ⟨trivial, fun _ => by omega, (callsIn_wide.2 (dread_any padB padB_lt _)).mono ?_⟩
          rintro e wk ⟨rfl, hwk⟩
          refine hK _ _ ?_
          clear hK K
          have cb := (hwk.cell (p := ⟨w.heap.size, 0, none⟩) (by have := HX.out.2.2.1.lt; exact this)).trans cb
          have ca := (hwk.cell (p := ⟨w.heap.size + 1, 0, none⟩) (by have := HX.out.2.2.2.1.lt; exact this)).trans ca
          refine wpAnyIn_ready (rs := [0, 1]) (by kernel_rfl) (by simp) ?_
          refine AllReadyIn.cons rfl (fun K hK => ?_) (AllReadyIn.cons rfl (fun K hK => ?_) AllReadyIn.nil)
          · go_simp
            refine hK _ _ ?_
            clear hK K
            refine wpAnyIn_ready (rs := [1]) (by kernel_rfl) (by simp) ?_
            refine AllReadyIn.cons rfl (fun K hK => ?_) AllReadyIn.nil
            · go_simp
              refine hK _ _ ?_
              clear hK K
              clear cb ca
              revert hwk
              revert wk
              exact key.out
          · go_simp
            refine hK _ _ ?_
            clear hK K
            refine wpAnyIn_ready (rs := [0]) (by kernel_rfl) (by simp) ?_
            refine AllReadyIn.cons rfl (fun K hK => ?_) AllReadyIn.nil
            · go_simp
              refine hK _ _ ?_
              clear hK K
              clear cb ca
              revert hwk
              revert wk
              exact key.out
    case kk =>
      intro wk hwk
      obtain ⟨_, hj, hbx, hat, hkp, hbl⟩ := HX.out
      have hjd : J [] V.drew := hJ _ _ _ none hj (grown_drew ⟨rfl, rfl, rfl, Nat.le_refl _, fun _ _ _ => rfl⟩) (fun _ e => by cases e)
      have hjk : J [] wk := hJ.new hjd hwk
      have hbxk := hbx.drew'.keep hwk
      have hatk := hat.drew'.keep hwk
      have hkw : KeptN W0.heap.size N X wk := hkp.trans (KeptN.of (Nat.le_trans hNX hkp.1) (show Kept W0.heap.size V wk from Kept.below (X := V.drew) _ hwk))
      have hblk : Below n₀ X wk := hbl.trans ((Below.refl n₀ V).drew.trans (hwk.mono (by have := hkp.1; have := hW2.size; show n₀ ≤ V.heap.size; omega)))
      obtain ⟨fn, tmps, assign, body, hy, hR⟩ := YieldAt.wide (m' := n - 1 - 1 - 1) (hY [] () wk rfl hjk)
      have HZ := Lib.hid (And.intro hbxk (And.intro hatk (And.intro hkw hblk)))
      have hNw : N ≤ wk.heap.size := Nat.le_trans hNX hkw.1
      clear hj hbx hat hkp hbl hjd hjk hbxk hatk hkw hblk HX hP cb ca hY hwk
      refine wpAnyIn_ready (rs := [4]) (by kernel_rfl) (by simp) ?_
      refine AllReadyIn.cons rfl (fun K hK => ?_) AllReadyIn.nil
      go_simp
      first
      | refine RoundIn.mono hR ?_
      | refine ⟨fun _ => by omega, RoundIn.mono hR ?_⟩
      rintro e Y (⟨rfl, h1, h2, h3⟩ | ⟨rfl, h1, h2⟩)
      · refine hK _ _ ?_
        clear hK K hR hy
        refine wpAnyIn_take (i := 5) (v := ?vq7) rfl rfl (by kernel_rfl) (by kernel_rfl) (by kernel_rfl) (fun _ _ _ h => h) ⟨Or.inl ⟨by rfl, ?yq7⟩, fun _ => rfl⟩ ?rq7
        case yq7 => (intro w; go_simp <;> with_reducible rfl)
        refine wpAnyIn_done (by kernel_rfl) ?_ _
        simp only [Act.put, List.getElem_toArray, List.getElem_cons_succ, List.getElem_cons_zero, List.setIfInBounds_toArray, List.set_cons_zero, List.set_cons_succ]
        obtain ⟨hbx, hat, hkw, hbl⟩ := HZ.out
        have hbxY : Blk Y w.heap.size 62 #[.func (.yield l) #[] #[]] := (h2.2 _ (Nat.le_refl _) hbx.lt).trans hbx
        have hatY : Blk Y (w.heap.size + 1) 3 #[.int .i64 0] := (h2.2 _ (by omega) hat.lt).trans hat
        have ca := cell_of_row _ _ 0 _ _ _ hatY
        have fa := frozen_of_row _ _ 0 _ _ hatY
        have hl1 := hat2.lt
        have hG := grown_set' (grown_refl Y (w.heap.size + 1)) 0 (.int .i64 1)
        have hE := Lib.hid (show KeptN W0.heap.size N X (Y.setCell ⟨w.heap.size + 1, 0, none⟩ (.int .i64 1)) ∧ Below n₀ X (Y.setCell ⟨w.heap.size + 1, 0, none⟩ (.int .i64 1)) ∧ ((J ([] ++ [()]) (Y.setCell ⟨w.heap.size + 1, 0, none⟩ (.int .i64 1)) ∧ Blk (Y.setCell ⟨w.heap.size + 1, 0, none⟩ (.int .i64 1)) w.heap.size 62 #[.func (.yield l) #[] #[]]) ∧ Blk (Y.setCell ⟨w.heap.size + 1, 0, none⟩ (.int .i64 1)) (w.heap.size + 1) 3 #[.int .i64 1] ∧ W0.heap.size ≤ (Y.setCell ⟨w.heap.size + 1, 0, none⟩ (.int .i64 1)).heap.size) from by
          have hk3 : KeptN W0.heap.size N X Y := hkw.trans (KeptN.of hNw (h2.mono (by omega)))
          have hsz : (Y.setCell ⟨w.heap.size + 1, 0, none⟩ (.int .i64 1)).heap.size = Y.heap.size := by simp [World.setCell]
          exact ⟨hk3.trans (KeptN.grown (Nat.le_trans hNX hk3.1) hG (fun r e => by cases e; exact .inl hl1)), (hbl.trans h3).grown hG (by have := hk3.1; have := hW2.size; omega) (fun k e => by cases e; omega), ⟨hJ.set 0 _ h1 (by omega), hbxY.kept hG (fun e => by injection e; omega)⟩, heap_setCell_same Y _ 0 _ _ _ hatY, by rw [hsz]; have := hk3.1; omega⟩)
        clear hbx hat hkw hbl hbxY hatY hG h1 h2 h3 HZ
        gi_wp2_with fail
        exact hE.out
      · refine hK _ _ ?_
        clear hK K hR hy
        refine wpAnyIn_take (i := 5) (v := ?vq8) rfl rfl (by kernel_rfl) (by kernel_rfl) (by kernel_rfl) (fun _ _ _ h => h) ⟨Or.inl ⟨by rfl, ?yq8⟩, fun _ => rfl⟩ ?rq8
        case yq8 => (intro w; go_simp <;> with_reducible rfl)
        refine wpAnyIn_done (by kernel_rfl) ?_ _
        simp only [Act.put, List.getElem_toArray, List.getElem_cons_succ, List.getElem_cons_zero, List.setIfInBounds_toArray, List.set_cons_zero, List.set_cons_succ]
        obtain ⟨hbx, hat, hkw, hbl⟩ := HZ.out
        have hE := Lib.hid (show KeptN W0.heap.size N X Y ∧ Jx ([] ++ [()]) Y from ⟨hkw.trans (KeptN.of hNw (h2.mono (by have := hat2.lt; omega))), h1⟩)
        clear hbx hat hkw hbl h1 h2 HZ
        gi_wp2_with fail
        exact ⟨hE.out.1, rfl, hE.out.2⟩
  case done =>
    rintro D xs X hD rfl ⟨⟨hj, _⟩, _, hle⟩ hK
    have hJD : ∀ s, J s X → J s (X.putObj D (.deferred none)) := fun s h => hJ.put _ h (by have := hW2.size; omega)
    clear hS hat2 hbox2 hW2 hj2
    gi_wp2_with fail
    rw [Exit.noGoto_normal]
    refine ⟨by simp, .inl ⟨_, _, rfl, run_takeDeferred hK, ?_⟩⟩
    exact ⟨_, results_none rfl _ _ _, ⟨_, rfl⟩, .inl ⟨_, rfl, hJD _ hj⟩⟩
  case stop =>
    rintro D c pre X hD rfl ⟨rfl, hL⟩ hK
    have hJxD : ∀ s, Jx s X → Jx s (X.putObj D (.deferred none)) := fun s h => hJx.put _ h (by have := hW2.size; omega)
    clear hS hat2 hbox2 hW2 hj2
    gi_wp2
    rw [Exit.noGoto_normal]
    refine ⟨by simp, .inl ⟨_, _, rfl, run_takeDeferred hK, ?_⟩⟩
    exact ⟨_, results_none rfl _ _ _, ⟨_, rfl⟩, .inr ⟨_, rfl, hJxD _ hL⟩⟩
theorem padded0_seq (n n₀ A : Nat) (hn : 4 ≤ n) (w : World) (hn₀ : n₀ ≤ w.heap.size) (hA : Blk w A 45 #[.slice none 0 0]) :
    SeqB n Try.prog 30 #[.pointer (some ⟨A, 0, none⟩)] (fun _ : Unit => #[.int .i64 0, .agg (Fc 17 (blP padB 136))]) n₀ (fun _ => True) (fun pre _ => pre = []) (fun xs => xs = [()]) (fun pre => pre = [()]) w := fun l J Jx W hW hJ hJx _ hY h0 =>
  padded0_in n hn l A n₀ J Jx W (Nat.le_trans hn₀ hW.size) (hA.keep hW) hJ hJx hY h0
theorem padded_any (x : Option Addr) (n cap : Nat) (w : World) :
    Calls Try.prog 19 #[.slice x n cap] w fun e w' => e = .returned (.func (.func 30) #[] #[.pointer (some ⟨w.heap.size, 0, none⟩)]) ∧ w' = w.alloc (.cells #[.slice x n cap] 45) := by
  go_enter Try.func19, Try.ntmps19
  go_wp2
  go_ret
  exact ⟨rfl, rfl⟩
end Go.Proofs.Ytfknfopdinkmkaa
