/- digest: pieces of no bytes. -/
import Derived.Test.YtfknfopdinkmkaaKk
import Derived.Test.YtfknfopdinkmkaaTg
import Derived.Laws.EntriesVeiled
import Derived.Lib.SliceRun
namespace Go.Proofs.Ytfknfopdinkmkaa
open Go.RowKit Go.Shelf
attribute [local irreducible] ln rot
theorem grown_setCells (b : Nat) : ∀ (vs : List Value) (o : Nat) (w X : World), w.grownBy X (some b) → w.grownBy (X.setCells b o vs) (some b)
  | [], _, _, _, h => h
  | v :: vs, o, w, X, h => grown_setCells b vs (o + 1) w (X.setCell ⟨b, o, none⟩ v) (grown_set' h o v)
theorem rep136 : List.replicate 136 (Value.int .u8 0) = (Bc 136 (fun _ => 0)).toList := by kernel_rfl
theorem zero71 (w : World) : (zeroValue 66).run Try.prog w = .ok (.agg (Bc 136 (fun _ => 0))) w := by kernel_rfl
attribute [local go_sem] zero71
theorem clear136 (g : Nat) (w1 : World) (hP : Blk w1 g 66 (Bc 136 (fun _ => 0))) :
    (Builtin.clear_ #[22] 0 #[.slice (some ⟨g, 0, none⟩) 136 136]).run Try.prog w1 = .ok (.tuple #[]) (w1.setCells g 0 (Bc 136 (fun _ => 0)).toList) := by
  have h := Lib.run_clear_slice (P := Try.prog) w1 22 5 0 (.int .u8 0) (by kernel_rfl) (fun w => by kernel_rfl) rfl rfl g 0 136 136 (by omega)
    (fun j hj => by rw [Nat.zero_add, cell_of_row _ _ j _ _ _ hP, Bc_get 136 _ j hj]; rfl) (fun j hj => by rw [Nat.zero_add]; exact frozen_of_row _ _ j _ _ hP)
  rw [rep136] at h
  exact h
theorem wpIn_load_row {P : Program} {n : Nat} {op : Oper} {a : Act} {w : World} {K : Act → World → Prop} {Q : Exit → Act → World → Prop} (ty : TypeId) (x : Operand) (ho : op.op = .load ty x)
    (b o : Nat) (hx : a.eval x = .pointer (some ⟨b, o, none⟩)) (cs : List Value) (d : TypeDesc) (hc : w.rangeAt b o cs)
    (hu : P.underlying ty = some d) (hd : d.isRow = true) (hi : (P.info? ty).map (·.size) = some cs.length)
    (h : K (a.put op.dst (.agg cs.toArray)) w) : op.wpIn Fence.wide n P a w K Q := by
  refine ⟨fun _ _ => trivial, ?_⟩
  show op.uponIn Fence.wide n P a K Q ((execOp a.eval op).run P w)
  unfold execOp
  simp only [ho, hx, Instr.loadAt, Instr.sureAddr, Sem.run_bind, Sem.run_pure, Result.andThen_ok, run_loadVar_mid w b o ty cs d hc hu hd hi]
  exact h
attribute [local irreducible] Bc Fc
set_option maxRecDepth 100000 in
set_option maxHeartbeats 400000 in
theorem pieces0_in (n : Nat) (hn : 1 ≤ n) (l A n₀ : Nat) (J Jx : List Unit → World → Prop) (w : World)
    (hA : Blk w A 45 #[.slice none 0 0]) (hJ : Abide w.heap.size J)
    (hY : ∀ pre (x : Unit) X, pre = [] → J pre X → YieldAt Fence.wide 0 Try.prog l #[.int .i64 0, .agg (Bc 136 (fun _ => 0))] X fun e Y => (e = .returned (.bool true) ∧ J (pre ++ [x]) Y ∧ Kept w.heap.size X Y ∧ Below n₀ X Y) ∨ (e = .returned (.bool false) ∧ Jx (pre ++ [x]) Y ∧ Kept w.heap.size X Y))
    (h0 : J [] w) :
    CallsIn Fence.wide n Try.prog 39 #[.func (.yield l) #[] #[], .pointer (some ⟨A, 0, none⟩)] w fun e Y => (∃ v, e = .returned v) ∧
      ((∃ xs, xs = [()] ∧ J xs Y) ∨ (∃ pre, pre = [()] ∧ Jx pre Y)) := by
  refine callsIn_of_wp Try.func39 rfl trivial ?_ rfl
  simp only [Try.ntmps39, List.size_toArray, List.length_cons, List.length_nil, Nat.reduceAdd, Nat.reduceSub, Array.replicate_succ, Array.replicate_zero, List.push_toArray, List.append_toArray, List.nil_append, List.cons_append]
  have c0 : w.cell? ⟨A, 0, none⟩ = some (.slice none 0 0) := cell_of_row w _ 0 _ _ _ hA
  have hlA := hA.lt
  gi_wp2_with fail
  refine (wpIn_wide (n := n)).2 (wp_scope_straight ((wpIn_wide (n := n)).1 ?_))
  gi_wp2_with fail
  have hP := Blk.new w 66 (Bc 136 (fun _ => 0))
  have hj0 := hJ.alloc (.cells (Bc 136 (fun _ => 0)) 66) h0
  obtain ⟨w1, hw1⟩ : ∃ w1, w.alloc (.cells (Bc 136 (fun _ => 0)) 66) = w1 := ⟨_, rfl⟩
  rw [hw1] at hP hj0 ⊢
  have HX := Lib.hid (And.intro hP hj0)
  clear hw1 hP hj0 c0
  have hclr := clear136 w.heap.size w1 HX.out.1
  have HCL := Lib.hid hclr
  have hP2 : Blk (w1.setCells w.heap.size 0 (Bc 136 (fun _ => 0)).toList) w.heap.size 66 (Bc 136 (fun _ => 0)) := blk_setCells HX.out.1 _ rfl (Bc_one _ _)
  have hj2 : J [] (w1.setCells w.heap.size 0 (Bc 136 (fun _ => 0)).toList) := hJ _ _ _ (some w.heap.size) HX.out.2 (grown_setCells _ _ _ _ _ (grown_refl _ _)) (fun r e => by cases e; exact Nat.le_refl _)
  refine (wpIn_wide (n := n)).2 (wp_loop_rounds 2 ?_)
  rw [rounds_succ]
  clear hclr
  have HX2 := Lib.hid (And.intro hP2 hj2)
  clear hP2 hj2
  go_wp2_with fail
  have hclr := HCL.out
  gi_wp2_with fail
  obtain ⟨hP2, hj2⟩ := HX2.out
  clear hclr HCL HX2 HX
  generalize w1.setCells w.heap.size 0 (Bc 136 (fun _ => 0)).toList = w2 at hP2 hj2 ⊢
  obtain ⟨fn, tmps, assign, body, hy, hR⟩ := YieldAt.wide (m' := n - 1) (hY [] () w2 rfl hj2)
  have HR := Lib.hid hR
  refine wpIn_load_row 66 (.tmp 3) rfl w.heap.size 0 rfl (Bc 136 (fun _ => 0)).toList _ hP2.rangeAt und71 rfl (by rw [info71]; show some 136 = some (Bc 136 (fun _ => 0)).size; rw [Bc_size]) ?_
  clear hR hP2 hj2 hA hJ hY h0
  rename_i K hK
  refine hK _ _ ?_
  clear hK K
  rw [Array.toArray_toList]
  gi_wp2_with fail
  refine RoundIn.mono HR.out ?_
  rintro e Y (⟨rfl, hj, _, _⟩ | ⟨rfl, hj, _⟩)
  · clear HR hy
    gi_wp2_with fail
    try refine wpIn_label ?_
    try rw [Exit.noGoto_normal]
    go_end0
    exact ⟨⟨_, rfl⟩, .inl ⟨_, rfl, hj⟩⟩
  · clear HR hy
    gi_wp2_with fail
    try refine wpIn_label ?_
    try rw [Exit.noGoto_normal]
    go_end0
    exact ⟨⟨_, rfl⟩, .inr ⟨_, rfl, hj⟩⟩
theorem pieces0_seq (n n₀ A : Nat) (hn : 1 ≤ n) (w : World) (hA : Blk w A 45 #[.slice none 0 0]) :
    SeqB n Try.prog 39 #[.pointer (some ⟨A, 0, none⟩)] (fun _ : Unit => #[.int .i64 0, .agg (Bc 136 (fun _ => 0))]) n₀ (fun _ => True) (fun pre _ => pre = []) (fun xs => xs = [()]) (fun pre => pre = [()]) w := fun l J Jx W hW hJ _ _ hY h0 =>
  pieces0_in n hn l A n₀ J Jx W (hA.keep hW) hJ hY h0
end Go.Proofs.Ytfknfopdinkmkaa
