/- policy's laws: the reader's lines of a clearance. -/
import Derived.Test.YtenepkgjdoddgaaGreatDoorAb
import Derived.Maps.AppendAt
import Derived.Great.BuildSlice
import Derived.Lib.SmallJoins
namespace Go.Proofs.YtenepkgjdoddgaaGreatDoor
open Go.RowKit Go.Shelf

/-- An own row of clearances. -/
def OwC (X : World) (base : Nat) (v : Value) (l : List (List Nat × Nat)) : Prop := X.ownsRow base 72 21 v l.length (l.flatMap fun c => (clC c).toList) ∧ ∀ c ∈ l, Ad c.1 ∧ c.2 < 18446744073709551616
theorem ad_lit {a : List Nat} (h : Ad a) : ∃ x0 x1 x2 x3 x4 x5 x6 x7 x8 x9 y0 y1 y2 y3 y4 y5 y6 y7 y8 y9, a = [x0, x1, x2, x3, x4, x5, x6, x7, x8, x9, y0, y1, y2, y3, y4, y5, y6, y7, y8, y9] := by
  have h := h.1
  match a, h with
  | [x0, x1, x2, x3, x4, x5, x6, x7, x8, x9, y0, y1, y2, y3, y4, y5, y6, y7, y8, y9], _ => exact ⟨x0, x1, x2, x3, x4, x5, x6, x7, x8, x9, y0, y1, y2, y3, y4, y5, y6, y7, y8, y9, rfl⟩
set_option maxRecDepth 100000 in
theorem build_clear {a : List Nat} (h : Ad a) (l : Nat) (w : World) : (Instr.build 72 #[(0, .agg (adC a)), (1, .int .u64 (l : Nat))]).run Tryz.prog w = .ok (.agg (clC (a, l))) w := by
  obtain ⟨x0, x1, x2, x3, x4, x5, x6, x7, x8, x9, y0, y1, y2, y3, y4, y5, y6, y7, y8, y9, rfl⟩ := ad_lit h
  unfold adC clC bvs
  exact run_build w _ _ _ (by kernel_rfl)
set_option maxRecDepth 100000 in
theorem slice_clear {a : List Nat} (h : Ad a) (l : Nat) (w : World) : (Instr.buildSlice 24 1 #[(0, .agg (clC (a, l)))]).run Tryz.prog w = .ok (.slice (some ⟨w.heap.size, 0, none⟩) 1 1) (w.alloc (.cells (clC (a, l)) 72)) := by
  obtain ⟨ie, hie⟩ : ∃ ie, Tryz.prog.info? 72 = some ie := Option.isSome_iff_exists.1 (by kernel_rfl)
  have hz : (Tryz.prog.info? 72).map (fun i => (i.size, i.zero)) = some (21, some (.agg zcC)) := by rw [zcC_lit]; kernel_rfl
  rw [hie] at hz
  simp only [Option.map_some, Option.some.injEq, Prod.mk.injEq] at hz
  obtain ⟨x0, x1, x2, x3, x4, x5, x6, x7, x8, x9, y0, y1, y2, y3, y4, y5, y6, y7, y8, y9, rfl⟩ := ad_lit h
  refine run_buildSlice w 24 72 1 _ _ ie (.agg zcC) (by kernel_rfl) hie hz.2 (by rw [hz.1]; decide) (by rw [hz.1]; decide) ?_
  rw [hz.1, zcC_lit]
  unfold clC bvs
  kernel_rfl
theorem wp_app_run {P : Program} {w : World} {o : Oper} {a : Act} {K : Act → World → Prop} {Q : Exit → Act → World → Prop} (s x : Operand) (t : TypeId)
    (ho : o.op = .call { callee := .builtin .append, args := #[s, x], argTypes := #[t, t] }) {v u v' : Value} {w' : World} (hs : a.eval s = v) (hx : a.eval x = u)
    (hr : (Builtin.append_ #[t, t] o.type #[v, u]).run P w = .ok v' w') (hK : K (a.put o.dst v') w') : Oper.wp P o a w K Q := by
  unfold Oper.wp
  simp [execOp, ho, resolve, invoke, builtin, hs, hx, hr, Result.andThen]
  exact hK
theorem yieldsIf_build {P : Program} {ops : Array Oper} {S : World → Prop} {op : Oper} {a : Act} (hw : Region.wanted op (yielded ops a.tmps) = true) (ty : TypeId) (parts : Array (Nat × Operand)) (ho : op.op = .build ty parts) (vs : Array (Nat × Value)) (hv : (parts.map fun (i, x) => (i, a.eval x)) = vs) (cells : Array Value)
    (hb : ∀ w, (Instr.build ty vs).run P w = .ok (.agg cells) w) : YieldsIf P ops S op (.agg cells) a :=
  .inl ⟨hw, fun w _ => by
    unfold execOp
    simp only [ho, hv, Sem.run_bind, hb w, Result.andThen_ok, Sem.run_pure]⟩
theorem wp_bslice_run {P : Program} {w : World} {o : Oper} {a : Act} {K : Act → World → Prop} {Q : Exit → Act → World → Prop} (t : TypeId) (len : Nat) (parts : Array (Nat × Operand)) (ho : o.op = .buildSlice t len parts) (vs : Array (Nat × Value)) (hv : (parts.map fun (i, x) => (i, a.eval x)) = vs)
    {v : Value} {w' : World} (hr : (Instr.buildSlice t len vs).run P w = .ok v w') (hK : K (a.put o.dst v) w') : Oper.wp P o a w K Q := by
  unfold Oper.wp execOp
  simp only [ho, hv, Sem.run_bind, hr, Result.andThen_ok]
  exact hK
theorem infoCl : (Tryz.prog.info? 72).map (fun i => (i.zero, i.size, i.bytes)) = some (some (.agg zcC), 21, 32) := by rw [zcC_lit]; kernel_rfl
theorem grown_both {X Y Z : World} {R : Nat} (h : X.grownBy Y (some R)) (k : Y.grownBy Z (some R)) : X.grownBy Z (some R) :=
  ⟨k.os.trans h.os, k.tape.trans h.tape, k.output.trans h.output, Nat.le_trans h.size k.size, fun i hi hr => (k.block i (Nat.lt_of_lt_of_le hi h.size) hr).trans (h.block i hi hr)⟩
/-- What becomes of the row of clearances, and of the reader. -/
theorem clear_end (R b k l n₀ : Nat) (cs : List ByteArray) (T : List UInt8) (v2 : Value) (num : Nat) (df : Int) (vc : Value) (ls : List (List Nat × Nat)) (w w1 w2 : World) (hR : Rd w2 R v2 num df vc (.slice none 0 0)) (hb : Wd w2 b cs k v2) (hg1 : w.grownBy w1 (some R)) (hg2 : w1.grownBy w2 (some R))
    (hC : OwC w n₀ vc ls) (hN : n₀ ≤ R ∧ n₀ ≤ w.heap.size ∧ vc.ownBlock ≠ some R ∧ vc.ownBlock ≠ some b ∧ ls.length ≤ 100000 ∧ l < 18446744073709551616 ∧ R < w.heap.size) :
    ∃ (gn cn : Nat) (w5 : World), (Builtin.append_ #[24, 24] 24 #[vc, .slice (some ⟨w2.heap.size, 0, none⟩) 1 1]).run Tryz.prog (w2.alloc (.cells (clC (lowA (valL T), l)) 72)) = .ok (.slice (some ⟨gn, 0, none⟩) (ls.length + 1) cn) w5 ∧
      (w2.alloc (.cells (clC (lowA (valL T), l)) 72)).cell? ⟨R, 3, none⟩ = some vc ∧ w5.cell? ⟨R, 3, none⟩ = some vc ∧ w5.frozen? ⟨R, 3, none⟩ = false ∧
      ∃ v3 vc', Rd (w5.setCell ⟨R, 3, none⟩ (.slice (some ⟨gn, 0, none⟩) (ls.length + 1) cn)) R v3 num df vc' (.slice none 0 0) ∧ Wd (w5.setCell ⟨R, 3, none⟩ (.slice (some ⟨gn, 0, none⟩) (ls.length + 1) cn)) b cs k v3 ∧ OwC (w5.setCell ⟨R, 3, none⟩ (.slice (some ⟨gn, 0, none⟩) (ls.length + 1) cn)) n₀ vc' (ls ++ [(lowA (valL T), l)]) ∧
        (vc'.ownBlock = vc.ownBlock ∨ ∃ g, vc'.ownBlock = some g ∧ w.heap.size ≤ g) ∧ Below n₀ w (w5.setCell ⟨R, 3, none⟩ (.slice (some ⟨gn, 0, none⟩) (ls.length + 1) cn)) ∧ KeptM (fun k => k ≠ R ∧ vc.ownBlock ≠ some k) w (w5.setCell ⟨R, 3, none⟩ (.slice (some ⟨gn, 0, none⟩) (ls.length + 1) cn)) := by
  obtain ⟨hnR, hnw, hCR, hCb, hlen, hl64, hRw⟩ := hN
  have hA := lowA_ad (valL T)
  obtain ⟨i0, hi0, hz0, hz1, hz2⟩ := info_parts' infoCl
  have hg := grown_both hg1 hg2
  have hC2 := hC.1.kept hg (.inr hCR)
  have hal : Below w2.heap.size w2 (w2.alloc (.cells (clC (lowA (valL T), l)) 72)) := balloc (Below.refl _ _) _
  have hC3 := hC2.kept (grown_new hal) (by cases vc.ownBlock <;> simp)
  have hZ := Blk.new w2 72 (clC (lowA (valL T), l))
  have hR3 : Rd (w2.alloc (.cells (clC (lowA (valL T), l)) 72)) R v2 num df vc (.slice none 0 0) := Rd.kept hR (grown_new hal) (by simp)
  have hb3 : Wd (w2.alloc (.cells (clC (lowA (valL T), l)) 72)) b cs k v2 := Wd.kept hb (grown_new hal) (by simp)
  have hsz : (w2.alloc (.cells (clC (lowA (valL T), l)) 72)).heap.size = w2.heap.size + 1 := by simp
  have hnews : ∀ (j : Nat) u, (clC (lowA (valL T), l)).toList[j]? = some u → (w2.alloc (.cells (clC (lowA (valL T), l)) 72)).cell? ((⟨w2.heap.size, 0, none⟩ : Addr).add j) = some u := fun j u hj => by
    rw [Go.WideShapes.add_plain, Nat.zero_add, cell_of_row _ w2.heap.size j _ _ _ hZ]
    exact (Array.getElem?_toList ..).symm.trans hj
  have hw2 : w.heap.size ≤ w2.heap.size := hg.size
  obtain ⟨v', w5, hrun, hown5, hg5, _, hat⟩ := run_append_own_at (P := Tryz.prog) (w := w2.alloc (.cells (clC (lowA (valL T), l)) 72)) n₀ 24 24 72 i0 (.agg zcC) 21 32 (by kernel_rfl) hi0 hz0 hz1 hz2 (by rw [zcC_lit]; rfl) (by decide) vc ls.length _ hC3 ⟨w2.heap.size, 0, none⟩ 1 1 (clC (lowA (valL T), l)).toList (by rw [clC_len hA]) hnews (fun u hu => by have := clC_one (lowA (valL T), l); rw [← Array.all_toList, List.all_eq_true] at this; exact this u hu) (by unfold maxLen; omega) (by omega) (by omega)
  obtain ⟨gn, cn, rfl⟩ := Go.Joins.ownsRow_form hown5 (by omega)
  have hR5 : Rd w5 R v2 num df vc (.slice none 0 0) := Rd.kept hR3 hg5 hCR
  have hb5 : Wd w5 b cs k v2 := Wd.kept hb3 hg5 hCb
  have hGs := grown_set' (grown_refl w5 R) 3 (.slice (some ⟨gn, 0, none⟩) (ls.length + 1) cn)
  have hv'R : (Value.slice (some ⟨gn, 0, none⟩) (ls.length + 1) cn).ownBlock ≠ some R := fun e => by
    rcases hat with h | h
    · exact hCR (h.symm.trans e)
    · rw [h] at e; have := Option.some.inj e; omega
  have hbel : Below n₀ w (w5.setCell ⟨R, 3, none⟩ (.slice (some ⟨gn, 0, none⟩) (ls.length + 1) cn)) := by
    have h1 : Below n₀ w w2 := (Below.refl n₀ w).grown hg hnw (fun k e => by cases e; exact hnR)
    have h2 := h1.trans (hal.mono (by omega))
    have h3 := h2.grown hg5 (by omega) (fun k e => (hC3.lt k e).1)
    exact h3.setCell (p := ⟨R, 3, none⟩) hnR _
  refine ⟨gn, cn, w5, hrun, cell_of_row _ R 3 _ _ _ hR3, cell_of_row _ R 3 _ _ _ hR5, frozen_of_row _ R 3 _ _ hR5, v2, _, heap_setCell_same w5 R 3 _ _ _ hR5, Wd.kept hb5 hGs (fun e => (hR5.ne hb5) (Option.some.inj e).symm), ⟨?_, ?_⟩, ?_, hbel, ?_⟩
  · have h := hown5.kept hGs (.inr hv'R)
    rw [List.length_append, List.flatMap_append]
    simpa using h
  · intro c hc
    rcases List.mem_append.1 hc with h | h
    · exact hC.2 c h
    · simp at h; subst h; exact ⟨hA, hl64⟩
  · rcases hat with h | h
    · exact .inl h
    · exact .inr ⟨_, h, by omega⟩
  · have k1 : KeptM (fun k => k ≠ R ∧ vc.ownBlock ≠ some k) w w2 := KeptM.grown hg (fun r e h => by cases e; exact h.1 rfl)
    have k2 := k1.trans (KeptM.alloc _ w2 (.cells (clC (lowA (valL T), l)) 72))
    have k3 := k2.trans (KeptM.grown hg5 (fun r e h => h.2 e))
    exact k3.trans (KeptM.grown hGs (fun r e h => by cases e; exact h.1 rfl))
set_option maxRecDepth 100000 in
set_option maxHeartbeats 4000000 in
theorem clear_ok (R b k l n₀ : Nat) (cs : List ByteArray) (T : List UInt8) (u : ByteArray) (v : Value) (num : Nat) (df : Int) (vc : Value) (ls : List (List Nat × Nat)) (w : World) (hR : Rd w R v num df vc (.slice none 0 0)) (hb : Wd w b cs k v) (hnum : 0 < num)
    (hk : cs[k]? = some ⟨(48 :: 120 :: T).toArray⟩) (hk1 : cs[k + 1]? = some u) (hl : T.length = 40) (hok : ∀ y ∈ T, dv y < 16) (hu : u.size ≤ 400) (he : labE u.data.toList = 0) (hlab : labV u.data.toList = l) (hTS : ∀ w', w.grownBy w' (some R) → TZ w') (hn₀ : n₀ ≤ R) (hns : n₀ ≤ w.heap.size)
    (hC : OwC w n₀ vc ls) (hCR : vc.ownBlock ≠ some R ∧ vc.ownBlock ≠ some b) (hl64 : l < 18446744073709551616) (hlen : ls.length ≤ 100000) :
    Calls Tryz.prog 120 #[.pointer (some ⟨R, 0, none⟩)] w fun e w' => e = .returned (.tuple #[]) ∧ ∃ v' vc', Rd w' R v' num df vc' (.slice none 0 0) ∧ Wd w' b cs (k + 2) v' ∧ OwC w' n₀ vc' (ls ++ [(lowA (valL T), l)]) ∧
      (vc'.ownBlock = vc.ownBlock ∨ ∃ g, vc'.ownBlock = some g ∧ w.heap.size ≤ g) ∧ Below n₀ w w' ∧ KeptM (fun k => k ≠ R ∧ vc.ownBlock ≠ some k) w w' := by
  have c1 : w.cell? ⟨R, 1, none⟩ = some (.int .i64 (num : Nat)) := cell_of_row w R 1 _ _ _ hR
  have c3 : w.cell? ⟨R, 3, none⟩ = some vc := cell_of_row w R 3 _ _ _ hR
  have c4 : w.cell? ⟨R, 4, none⟩ = some (.slice none 0 0) := cell_of_row w R 4 _ _ _ hR
  have hnI : (0 : Int) < (num : Int) := by omega
  have hltR := Blk.lt hR
  have HN := Lib.hid (show n₀ ≤ R ∧ n₀ ≤ w.heap.size ∧ vc.ownBlock ≠ some R ∧ vc.ownBlock ≠ some b ∧ ls.length ≤ 100000 ∧ l < 18446744073709551616 ∧ R < w.heap.size from ⟨hn₀, hns, hCR.1, hCR.2, hlen, hl64, hltR⟩)
  have HK := Lib.hid (And.intro hk (And.intro hk1 (And.intro hl (And.intro hok (And.intro hu (And.intro he hlab))))))
  have HH := Lib.hid (And.intro hR (And.intro hb (And.intro hC hTS)))
  clear hR hb hC hTS hk hk1 hl hok hu he hlab hn₀ hns hCR hl64 hlen hltR
  go_enter Tryz.func120, Tryz.ntmps120
  go_upto_region 1 with (first | (go_at_call 92; refine (need_b _ rfl _).mono ?_; rintro e w' ⟨rfl, rfl⟩) | fail)
  --REG
  obtain ⟨WD, hWD⟩ : ∃ WD, w.drew = WD := ⟨_, rfl⟩
  have hgD : w.grownBy WD none := by rw [← hWD]; exact ⟨rfl, rfl, rfl, Nat.le_refl _, fun _ _ _ => rfl⟩
  have cW : WD.cell? ⟨R, 3, none⟩ = some vc := by rw [← hWD]; exact c3
  have H0 := Lib.hid (show Rd WD R v num df vc (.slice none 0 0) ∧ Wd WD b cs k v ∧ OwC WD n₀ vc ls ∧ (∀ X, WD.grownBy X (some R) → TZ X) from ⟨Rd.kept HH.out.1 hgD (by simp), Wd.kept HH.out.2.1 hgD (by simp), ⟨HH.out.2.2.1.1.kept hgD (by cases vc.ownBlock <;> simp), HH.out.2.2.1.2⟩, fun X hX => HH.out.2.2.2 X ⟨hX.os.trans hgD.os, hX.tape.trans hgD.tape, hX.output.trans hgD.output, Nat.le_trans hgD.size hX.size, fun i hi hr => (hX.block i (Nat.lt_of_lt_of_le hi hgD.size) hr).trans (hgD.block i hi (by simp))⟩⟩)
  have hWDs : WD.heap.size = w.heap.size := by rw [← hWD]; rfl
  have HD := Lib.hid (And.intro hgD hWD)
  rw [← hWDs] at HN
  clear hgD hWDs c1 c3 c4 hnI hnum
  have hbld := fun X => build_clear (lowA_ad (valL T)) l X
  refine wp_region_held_drew (S := fun _ => True) (by as_aux_lemma => kernel_rfl) trivial (fun hHeld => ?_)
  rw [HD.out.2]
  simp only [List.size_toArray, List.length_cons, List.length_nil, Nat.reduceAdd, Array.replicate_succ, Array.replicate_zero, List.push_toArray, List.nil_append, List.cons_append]
  refine wpAnyH_take (i := 0) (oi := { dst := some 17, op := Op.move (Operand.tmp 0), type := 147, pos := "reader.go:81", after := #[], guard := none }) (v := ?vq0) rfl (by as_aux_lemma => kernel_rfl) (by as_aux_lemma => kernel_rfl) (by as_aux_lemma => kernel_rfl) (fun _ _ _ h => h) (Or.inl ⟨by rfl, ?yq0⟩) (by assumption) ?rq0
  case yq0 => (intro w hSw; (try dsimp only at hSw); go_simp <;> with_reducible rfl)
  simp only [Act.put, List.setIfInBounds_toArray, List.set_cons_zero, List.set_cons_succ]
  refine wpAnyH_take (i := 1) (oi := { dst := some 18, op := Op.move (Operand.tmp 0), type := 147, pos := "reader.go:81", after := #[], guard := none }) (v := ?vq1) rfl (by as_aux_lemma => kernel_rfl) (by as_aux_lemma => kernel_rfl) (by as_aux_lemma => kernel_rfl) (fun _ _ _ h => h) (Or.inl ⟨by rfl, ?yq1⟩) (by assumption) ?rq1
  case yq1 => (intro w hSw; (try dsimp only at hSw); go_simp <;> with_reducible rfl)
  simp only [Act.put, List.setIfInBounds_toArray, List.set_cons_zero, List.set_cons_succ]
  refine wpAnyH_take (i := 2) (oi := { dst := some 19, op := Op.nilCheck (Operand.tmp 18), type := 0, pos := "reader.go:81", after := #[{ on := 1, ground := Ground.data }], guard := none }) (v := ?vq2) rfl (by as_aux_lemma => kernel_rfl) (by as_aux_lemma => kernel_rfl) (by as_aux_lemma => kernel_rfl) (fun _ _ _ h => h) (Or.inl ⟨by rfl, ?yq2⟩) (by assumption) ?rq2
  case yq2 => (intro w hSw; (try dsimp only at hSw); go_simp <;> with_reducible rfl)
  simp only [Act.put, List.setIfInBounds_toArray, List.set_cons_zero, List.set_cons_succ]
  refine wpAnyH_take (i := 3) (oi := { dst := some 20, op := Op.fieldAddr 141 (Operand.tmp 19) 2, type := 0, pos := "reader.go:81", after := #[{ on := 2, ground := Ground.data }], guard := none }) (v := ?vq3) rfl (by as_aux_lemma => kernel_rfl) (by as_aux_lemma => kernel_rfl) (by as_aux_lemma => kernel_rfl) (fun _ _ _ h => h) (Or.inl ⟨by rfl, ?yq3⟩) (by assumption) ?rq3
  case yq3 => (intro w hSw; (try dsimp only at hSw); go_simp <;> with_reducible rfl)
  simp only [Act.put, List.setIfInBounds_toArray, List.set_cons_zero, List.set_cons_succ]
  refine wpAnyH_take (i := 4) (oi := { dst := some 21, op := Op.fieldAddr 27 (Operand.tmp 20) 1, type := 0, pos := "reader.go:81", after := #[{ on := 3, ground := Ground.data }], guard := none }) (v := ?vq4) rfl (by as_aux_lemma => kernel_rfl) (by as_aux_lemma => kernel_rfl) (by as_aux_lemma => kernel_rfl) (fun _ _ _ h => h) (Or.inl ⟨by rfl, ?yq4⟩) (by assumption) ?rq4
  case yq4 => (intro w hSw; (try dsimp only at hSw); go_simp <;> with_reducible rfl)
  simp only [Act.put, List.setIfInBounds_toArray, List.set_cons_zero, List.set_cons_succ]
  refine wpAnyH_take (i := 6) (oi := { dst := some 23, op := Op.move (Operand.tmp 0), type := 147, pos := "reader.go:81", after := #[], guard := none }) (v := ?vq5) rfl (by as_aux_lemma => kernel_rfl) (by as_aux_lemma => kernel_rfl) (by as_aux_lemma => kernel_rfl) (fun _ _ _ h => h) (Or.inl ⟨by rfl, ?yq5⟩) (by assumption) ?rq5
  case yq5 => (intro w hSw; (try dsimp only at hSw); go_simp <;> with_reducible rfl)
  simp only [Act.put, List.setIfInBounds_toArray, List.set_cons_zero, List.set_cons_succ]
  refine wpAnyH_take (i := 8) (oi := { dst := some 25, op := Op.move (Operand.tmp 0), type := 147, pos := "reader.go:81", after := #[], guard := none }) (v := ?vq6) rfl (by as_aux_lemma => kernel_rfl) (by as_aux_lemma => kernel_rfl) (by as_aux_lemma => kernel_rfl) (fun _ _ _ h => h) (Or.inl ⟨by rfl, ?yq6⟩) (by assumption) ?rq6
  case yq6 => (intro w hSw; (try dsimp only at hSw); go_simp <;> with_reducible rfl)
  simp only [Act.put, List.setIfInBounds_toArray, List.set_cons_zero, List.set_cons_succ]
  refine wpAnyH_ready (rs := [5, 7]) (by as_aux_lemma => kernel_rfl) (by simp) ?_
  refine AllReadyH.cons (o := { dst := some 22, op := Op.load 24 (Operand.tmp 21), type := 24, pos := "reader.go:81", after := #[{ on := 4, ground := Ground.data }], guard := none }) rfl (fun K hK => ?_) ?_
  · rw [if_pos (by rfl)]
    go_simp
    refine hK.out _ _ (by (try dsimp only); (try trivial)) (fun hHeld => ?_)
    clear hK K
    simp only [List.setIfInBounds_toArray, List.set_cons_zero, List.set_cons_succ]
    refine wpAnyH_ready (rs := [7]) (by as_aux_lemma => kernel_rfl) (by simp) ?_
    refine AllReadyH.cons (o := { dst := some 24, op := Op.call { callee := Callee.value (Operand.func 142), args := #[Operand.tmp 23], argTypes := #[147] }, type := 29, pos := "reader.go:81", after := #[{ on := 6, ground := Ground.data }], guard := none }) rfl (fun K hK => ?_) (by exact AllReadyH.nil)
    rw [if_pos (by rfl)]
    go_simp
    refine (raddr_ok R b k cs T v num df vc (.slice none 0 0) _ H0.out.1 H0.out.2.1 HK.out.1 HK.out.2.2.1 HK.out.2.2.2.1).mono ?_
    rintro e w1 ⟨rfl, v1, hR1, hb1, hg1⟩
    have cA : w1.cell? ⟨R, 3, none⟩ = some vc := cell_of_row w1 R 3 _ _ _ hR1
    have H1 := Lib.hid (And.intro hR1 (And.intro hb1 hg1))
    clear hR1 hb1 hg1
    refine hK.out _ _ (by (try dsimp only); (try trivial)) (fun hHeld => ?_)
    clear hK K
    simp only [List.setIfInBounds_toArray, List.set_cons_zero, List.set_cons_succ]
    refine wpAnyH_ready (rs := [9]) (by as_aux_lemma => kernel_rfl) (by simp) ?_
    refine AllReadyH.cons (o := { dst := some 26, op := Op.call { callee := Callee.value (Operand.func 141), args := #[Operand.tmp 25], argTypes := #[147] }, type := 23, pos := "reader.go:81", after := #[{ on := 8, ground := Ground.data }, { on := 7, ground := Ground.chain }], guard := none }) rfl (fun K hK => ?_) (by exact AllReadyH.nil)
    rw [if_pos (by rfl)]
    go_simp
    have HL := Lib.hid (label_ok R b (k + 1) cs u v1 num df vc (.slice none 0 0) w1 H1.out.1 H1.out.2.1 HK.out.2.1 HK.out.2.2.2.2.1 (fun X hX => H0.out.2.2.2 X ⟨hX.os.trans H1.out.2.2.os, hX.tape.trans H1.out.2.2.tape, hX.output.trans H1.out.2.2.output, Nat.le_trans H1.out.2.2.size hX.size, fun i hi hr => (hX.block i (Nat.lt_of_lt_of_le hi H1.out.2.2.size) hr).trans (H1.out.2.2.block i hi hr)⟩) HK.out.2.2.2.2.2.1)
    rw [HK.out.2.2.2.2.2.2] at HL
    refine (HL.out).mono ?_
    rintro e w2 ⟨rfl, v2, hR2, hb2, hg2⟩
    obtain ⟨gn, cn, w5, hap, cB, c5, f5, hfin⟩ := clear_end R b (k + 2) l n₀ cs T v2 num df vc ls WD w1 w2 hR2 hb2 H1.out.2.2 hg2 H0.out.2.2.1 HN.out
    have cC : w2.cell? ⟨R, 3, none⟩ = some vc := cell_of_row w2 R 3 _ _ _ hR2
    have hbs := slice_clear (lowA_ad (valL T)) l w2
    have HF := Lib.hid hfin
    obtain ⟨NL, hNL⟩ : ∃ NL, ls.length + 1 = NL := ⟨_, rfl⟩
    rw [hNL] at hap HF
    clear hR2 hb2 hg2 hfin HL hNL
    refine hK.out _ _ (by (try dsimp only); (try trivial)) (fun hHeld => ?_)
    clear hK K
    simp only [List.setIfInBounds_toArray, List.set_cons_zero, List.set_cons_succ]
    refine wpAnyH_take (i := 10) (oi := { dst := some 27, op := Op.build 72 #[(0, Operand.tmp 24), (1, Operand.tmp 26)], type := 72, pos := "reader.go:81", after := #[{ on := 7, ground := Ground.data }, { on := 9, ground := Ground.data }], guard := none }) (v := .agg (clC (lowA (valL T), l))) rfl (by as_aux_lemma => kernel_rfl) (by as_aux_lemma => kernel_rfl) (by as_aux_lemma => kernel_rfl) (fun _ _ _ h => h) (yieldsIf_build (by rfl) 72 _ rfl #[(0, .agg (adC (lowA (valL T)))), (1, .int .u64 (l : Nat))] (by simp only [List.map_toArray, List.map_cons, List.map_nil]; rfl) _ hbld) (by assumption) ?_
    simp only [Act.put, List.setIfInBounds_toArray, List.set_cons_zero, List.set_cons_succ]
    refine wpAnyH_ready (rs := [11]) (by as_aux_lemma => kernel_rfl) (by simp) ?_
    refine AllReadyH.cons (o := { dst := some 28, op := Op.buildSlice 24 1 #[(0, Operand.tmp 27)], type := 24, pos := "reader.go:81", after := #[{ on := 10, ground := Ground.data }], guard := none }) rfl (fun K hK => ?_) (by exact AllReadyH.nil)
    rw [if_pos (by rfl)]
    refine wp_bslice_run 24 1 _ rfl #[(0, .agg (clC (lowA (valL T), l)))] (by simp only [List.map_toArray, List.map_cons, List.map_nil]; rfl) hbs ?_
    refine hK.out _ _ (by (try dsimp only); (try trivial)) (fun hHeld => ?_)
    clear hK K
    simp only [List.setIfInBounds_toArray, List.set_cons_zero, List.set_cons_succ]
    refine wpAnyH_ready (rs := [12]) (by as_aux_lemma => kernel_rfl) (by simp) ?_
    refine AllReadyH.cons (o := { dst := some 29, op := Op.call { callee := Callee.builtin Builtin.append, args := #[Operand.tmp 22, Operand.tmp 28], argTypes := #[24, 24] }, type := 24, pos := "reader.go:81", after := #[{ on := 5, ground := Ground.data }, { on := 11, ground := Ground.data }, { on := 9, ground := Ground.chain }], guard := none }) rfl (fun K hK => ?_) (by exact AllReadyH.nil)
    rw [if_pos (by rfl)]
    refine wp_app_run (.tmp 22) (.tmp 28) 24 rfl rfl rfl hap ?_
    refine hK.out _ _ (by (try dsimp only); (try trivial)) (fun hHeld => ?_)
    clear hK K
    simp only [List.setIfInBounds_toArray, List.set_cons_zero, List.set_cons_succ]
    refine wpAnyH_take (i := 13) (oi := { dst := some 30, op := Op.nilCheck (Operand.tmp 17), type := 0, pos := "reader.go:81", after := #[{ on := 0, ground := Ground.data }, { on := 0, ground := Ground.phase }, { on := 1, ground := Ground.phase }, { on := 2, ground := Ground.phase }, { on := 3, ground := Ground.phase }, { on := 4, ground := Ground.phase }, { on := 5, ground := Ground.phase }, { on := 6, ground := Ground.phase }, { on := 7, ground := Ground.phase }, { on := 8, ground := Ground.phase }, { on := 9, ground := Ground.phase }, { on := 10, ground := Ground.phase }, { on := 11, ground := Ground.phase }, { on := 12, ground := Ground.phase }], guard := none }) (v := ?vq13) rfl (by as_aux_lemma => kernel_rfl) (by as_aux_lemma => kernel_rfl) (by as_aux_lemma => kernel_rfl) (fun _ _ _ h => h) (Or.inl ⟨by rfl, ?yq13⟩) (by assumption) ?rq13
    case yq13 => (intro w hSw; (try dsimp only at hSw); go_simp <;> with_reducible rfl)
    simp only [Act.put, List.setIfInBounds_toArray, List.set_cons_zero, List.set_cons_succ]
    refine wpAnyH_take (i := 14) (oi := { dst := some 31, op := Op.fieldAddr 141 (Operand.tmp 30) 2, type := 0, pos := "reader.go:81", after := #[{ on := 13, ground := Ground.data }, { on := 0, ground := Ground.phase }, { on := 1, ground := Ground.phase }, { on := 2, ground := Ground.phase }, { on := 3, ground := Ground.phase }, { on := 4, ground := Ground.phase }, { on := 5, ground := Ground.phase }, { on := 6, ground := Ground.phase }, { on := 7, ground := Ground.phase }, { on := 8, ground := Ground.phase }, { on := 9, ground := Ground.phase }, { on := 10, ground := Ground.phase }, { on := 11, ground := Ground.phase }, { on := 12, ground := Ground.phase }], guard := none }) (v := ?vq14) rfl (by as_aux_lemma => kernel_rfl) (by as_aux_lemma => kernel_rfl) (by as_aux_lemma => kernel_rfl) (fun _ _ _ h => h) (Or.inl ⟨by rfl, ?yq14⟩) (by assumption) ?rq14
    case yq14 => (intro w hSw; (try dsimp only at hSw); go_simp <;> with_reducible rfl)
    simp only [Act.put, List.setIfInBounds_toArray, List.set_cons_zero, List.set_cons_succ]
    refine wpAnyH_take (i := 15) (oi := { dst := some 32, op := Op.fieldAddr 27 (Operand.tmp 31) 1, type := 0, pos := "reader.go:81", after := #[{ on := 14, ground := Ground.data }, { on := 0, ground := Ground.phase }, { on := 1, ground := Ground.phase }, { on := 2, ground := Ground.phase }, { on := 3, ground := Ground.phase }, { on := 4, ground := Ground.phase }, { on := 5, ground := Ground.phase }, { on := 6, ground := Ground.phase }, { on := 7, ground := Ground.phase }, { on := 8, ground := Ground.phase }, { on := 9, ground := Ground.phase }, { on := 10, ground := Ground.phase }, { on := 11, ground := Ground.phase }, { on := 12, ground := Ground.phase }], guard := none }) (v := ?vq15) rfl (by as_aux_lemma => kernel_rfl) (by as_aux_lemma => kernel_rfl) (by as_aux_lemma => kernel_rfl) (fun _ _ _ h => h) (Or.inl ⟨by rfl, ?yq15⟩) (by assumption) ?rq15
    case yq15 => (intro w hSw; (try dsimp only at hSw); go_simp <;> with_reducible rfl)
    simp only [Act.put, List.setIfInBounds_toArray, List.set_cons_zero, List.set_cons_succ]
    refine wpAnyH_ready (rs := [16]) (by as_aux_lemma => kernel_rfl) (by simp) ?_
    refine AllReadyH.cons (o := { dst := none, op := Op.store 24 (Operand.tmp 32) (Operand.tmp 29), type := 0, pos := "reader.go:81", after := #[{ on := 15, ground := Ground.data }, { on := 12, ground := Ground.data }, { on := 12, ground := Ground.chain }, { on := 0, ground := Ground.phase }, { on := 1, ground := Ground.phase }, { on := 2, ground := Ground.phase }, { on := 3, ground := Ground.phase }, { on := 4, ground := Ground.phase }, { on := 5, ground := Ground.phase }, { on := 6, ground := Ground.phase }, { on := 7, ground := Ground.phase }, { on := 8, ground := Ground.phase }, { on := 9, ground := Ground.phase }, { on := 10, ground := Ground.phase }, { on := 11, ground := Ground.phase }, { on := 12, ground := Ground.phase }], guard := none }) rfl (fun K hK => ?_) (by exact AllReadyH.nil)
    rw [if_pos (by rfl)]
    go_simp
    refine hK.out _ _ (by (try dsimp only); (try trivial)) (fun hHeld => ?_)
    clear hK K
    simp only [List.setIfInBounds_toArray, List.set_cons_zero, List.set_cons_succ]
    refine wpAnyH_done (by as_aux_lemma => kernel_rfl) ?_ _
    clear hHeld
    go_wp2_with fail
    go_end0
    obtain ⟨v3, vc', g1, g2, g3, g4, g5, g6⟩ := HF.out
    have hs : WD.heap.size = w.heap.size := by rw [← HD.out.2]; rfl
    exact ⟨rfl, v3, vc', g1, g2, g3, g4.imp id (fun ⟨g, h1, h2⟩ => ⟨g, h1, by omega⟩), (show Below n₀ w WD by rw [← HD.out.2]; exact ⟨rfl, rfl, rfl, Nat.le_refl _, fun _ _ => rfl⟩).trans g5, (KeptM.grown HD.out.1 (fun _ e => by cases e)).trans g6⟩
  refine AllReadyH.cons (o := { dst := some 24, op := Op.call { callee := Callee.value (Operand.func 142), args := #[Operand.tmp 23], argTypes := #[147] }, type := 29, pos := "reader.go:81", after := #[{ on := 6, ground := Ground.data }], guard := none }) rfl (fun K hK => ?_) (by exact AllReadyH.nil)
  rw [if_pos (by rfl)]
  go_simp
  refine (raddr_ok R b k cs T v num df vc (.slice none 0 0) _ H0.out.1 H0.out.2.1 HK.out.1 HK.out.2.2.1 HK.out.2.2.2.1).mono ?_
  rintro e w1 ⟨rfl, v1, hR1, hb1, hg1⟩
  have cA : w1.cell? ⟨R, 3, none⟩ = some vc := cell_of_row w1 R 3 _ _ _ hR1
  have H1 := Lib.hid (And.intro hR1 (And.intro hb1 hg1))
  clear hR1 hb1 hg1
  refine hK.out _ _ (by (try dsimp only); (try trivial)) (fun hHeld => ?_)
  clear hK K
  simp only [List.setIfInBounds_toArray, List.set_cons_zero, List.set_cons_succ]
  refine wpAnyH_ready (rs := [5, 9]) (by as_aux_lemma => kernel_rfl) (by simp) ?_
  refine AllReadyH.cons (o := { dst := some 22, op := Op.load 24 (Operand.tmp 21), type := 24, pos := "reader.go:81", after := #[{ on := 4, ground := Ground.data }], guard := none }) rfl (fun K hK => ?_) ?_
  · rw [if_pos (by rfl)]
    go_simp
    refine hK.out _ _ (by (try dsimp only); (try trivial)) (fun hHeld => ?_)
    clear hK K
    simp only [List.setIfInBounds_toArray, List.set_cons_zero, List.set_cons_succ]
    refine wpAnyH_ready (rs := [9]) (by as_aux_lemma => kernel_rfl) (by simp) ?_
    refine AllReadyH.cons (o := { dst := some 26, op := Op.call { callee := Callee.value (Operand.func 141), args := #[Operand.tmp 25], argTypes := #[147] }, type := 23, pos := "reader.go:81", after := #[{ on := 8, ground := Ground.data }, { on := 7, ground := Ground.chain }], guard := none }) rfl (fun K hK => ?_) (by exact AllReadyH.nil)
    rw [if_pos (by rfl)]
    go_simp
    have HL := Lib.hid (label_ok R b (k + 1) cs u v1 num df vc (.slice none 0 0) w1 H1.out.1 H1.out.2.1 HK.out.2.1 HK.out.2.2.2.2.1 (fun X hX => H0.out.2.2.2 X ⟨hX.os.trans H1.out.2.2.os, hX.tape.trans H1.out.2.2.tape, hX.output.trans H1.out.2.2.output, Nat.le_trans H1.out.2.2.size hX.size, fun i hi hr => (hX.block i (Nat.lt_of_lt_of_le hi H1.out.2.2.size) hr).trans (H1.out.2.2.block i hi hr)⟩) HK.out.2.2.2.2.2.1)
    rw [HK.out.2.2.2.2.2.2] at HL
    refine (HL.out).mono ?_
    rintro e w2 ⟨rfl, v2, hR2, hb2, hg2⟩
    obtain ⟨gn, cn, w5, hap, cB, c5, f5, hfin⟩ := clear_end R b (k + 2) l n₀ cs T v2 num df vc ls WD w1 w2 hR2 hb2 H1.out.2.2 hg2 H0.out.2.2.1 HN.out
    have cC : w2.cell? ⟨R, 3, none⟩ = some vc := cell_of_row w2 R 3 _ _ _ hR2
    have hbs := slice_clear (lowA_ad (valL T)) l w2
    have HF := Lib.hid hfin
    obtain ⟨NL, hNL⟩ : ∃ NL, ls.length + 1 = NL := ⟨_, rfl⟩
    rw [hNL] at hap HF
    clear hR2 hb2 hg2 hfin HL hNL
    refine hK.out _ _ (by (try dsimp only); (try trivial)) (fun hHeld => ?_)
    clear hK K
    simp only [List.setIfInBounds_toArray, List.set_cons_zero, List.set_cons_succ]
    refine wpAnyH_take (i := 10) (oi := { dst := some 27, op := Op.build 72 #[(0, Operand.tmp 24), (1, Operand.tmp 26)], type := 72, pos := "reader.go:81", after := #[{ on := 7, ground := Ground.data }, { on := 9, ground := Ground.data }], guard := none }) (v := .agg (clC (lowA (valL T), l))) rfl (by as_aux_lemma => kernel_rfl) (by as_aux_lemma => kernel_rfl) (by as_aux_lemma => kernel_rfl) (fun _ _ _ h => h) (yieldsIf_build (by rfl) 72 _ rfl #[(0, .agg (adC (lowA (valL T)))), (1, .int .u64 (l : Nat))] (by simp only [List.map_toArray, List.map_cons, List.map_nil]; rfl) _ hbld) (by assumption) ?_
    simp only [Act.put, List.setIfInBounds_toArray, List.set_cons_zero, List.set_cons_succ]
    refine wpAnyH_ready (rs := [11]) (by as_aux_lemma => kernel_rfl) (by simp) ?_
    refine AllReadyH.cons (o := { dst := some 28, op := Op.buildSlice 24 1 #[(0, Operand.tmp 27)], type := 24, pos := "reader.go:81", after := #[{ on := 10, ground := Ground.data }], guard := none }) rfl (fun K hK => ?_) (by exact AllReadyH.nil)
    rw [if_pos (by rfl)]
    refine wp_bslice_run 24 1 _ rfl #[(0, .agg (clC (lowA (valL T), l)))] (by simp only [List.map_toArray, List.map_cons, List.map_nil]; rfl) hbs ?_
    refine hK.out _ _ (by (try dsimp only); (try trivial)) (fun hHeld => ?_)
    clear hK K
    simp only [List.setIfInBounds_toArray, List.set_cons_zero, List.set_cons_succ]
    refine wpAnyH_ready (rs := [12]) (by as_aux_lemma => kernel_rfl) (by simp) ?_
    refine AllReadyH.cons (o := { dst := some 29, op := Op.call { callee := Callee.builtin Builtin.append, args := #[Operand.tmp 22, Operand.tmp 28], argTypes := #[24, 24] }, type := 24, pos := "reader.go:81", after := #[{ on := 5, ground := Ground.data }, { on := 11, ground := Ground.data }, { on := 9, ground := Ground.chain }], guard := none }) rfl (fun K hK => ?_) (by exact AllReadyH.nil)
    rw [if_pos (by rfl)]
    refine wp_app_run (.tmp 22) (.tmp 28) 24 rfl rfl rfl hap ?_
    refine hK.out _ _ (by (try dsimp only); (try trivial)) (fun hHeld => ?_)
    clear hK K
    simp only [List.setIfInBounds_toArray, List.set_cons_zero, List.set_cons_succ]
    refine wpAnyH_take (i := 13) (oi := { dst := some 30, op := Op.nilCheck (Operand.tmp 17), type := 0, pos := "reader.go:81", after := #[{ on := 0, ground := Ground.data }, { on := 0, ground := Ground.phase }, { on := 1, ground := Ground.phase }, { on := 2, ground := Ground.phase }, { on := 3, ground := Ground.phase }, { on := 4, ground := Ground.phase }, { on := 5, ground := Ground.phase }, { on := 6, ground := Ground.phase }, { on := 7, ground := Ground.phase }, { on := 8, ground := Ground.phase }, { on := 9, ground := Ground.phase }, { on := 10, ground := Ground.phase }, { on := 11, ground := Ground.phase }, { on := 12, ground := Ground.phase }], guard := none }) (v := ?vq23) rfl (by as_aux_lemma => kernel_rfl) (by as_aux_lemma => kernel_rfl) (by as_aux_lemma => kernel_rfl) (fun _ _ _ h => h) (Or.inl ⟨by rfl, ?yq23⟩) (by assumption) ?rq23
    case yq23 => (intro w hSw; (try dsimp only at hSw); go_simp <;> with_reducible rfl)
    simp only [Act.put, List.setIfInBounds_toArray, List.set_cons_zero, List.set_cons_succ]
    refine wpAnyH_take (i := 14) (oi := { dst := some 31, op := Op.fieldAddr 141 (Operand.tmp 30) 2, type := 0, pos := "reader.go:81", after := #[{ on := 13, ground := Ground.data }, { on := 0, ground := Ground.phase }, { on := 1, ground := Ground.phase }, { on := 2, ground := Ground.phase }, { on := 3, ground := Ground.phase }, { on := 4, ground := Ground.phase }, { on := 5, ground := Ground.phase }, { on := 6, ground := Ground.phase }, { on := 7, ground := Ground.phase }, { on := 8, ground := Ground.phase }, { on := 9, ground := Ground.phase }, { on := 10, ground := Ground.phase }, { on := 11, ground := Ground.phase }, { on := 12, ground := Ground.phase }], guard := none }) (v := ?vq24) rfl (by as_aux_lemma => kernel_rfl) (by as_aux_lemma => kernel_rfl) (by as_aux_lemma => kernel_rfl) (fun _ _ _ h => h) (Or.inl ⟨by rfl, ?yq24⟩) (by assumption) ?rq24
    case yq24 => (intro w hSw; (try dsimp only at hSw); go_simp <;> with_reducible rfl)
    simp only [Act.put, List.setIfInBounds_toArray, List.set_cons_zero, List.set_cons_succ]
    refine wpAnyH_take (i := 15) (oi := { dst := some 32, op := Op.fieldAddr 27 (Operand.tmp 31) 1, type := 0, pos := "reader.go:81", after := #[{ on := 14, ground := Ground.data }, { on := 0, ground := Ground.phase }, { on := 1, ground := Ground.phase }, { on := 2, ground := Ground.phase }, { on := 3, ground := Ground.phase }, { on := 4, ground := Ground.phase }, { on := 5, ground := Ground.phase }, { on := 6, ground := Ground.phase }, { on := 7, ground := Ground.phase }, { on := 8, ground := Ground.phase }, { on := 9, ground := Ground.phase }, { on := 10, ground := Ground.phase }, { on := 11, ground := Ground.phase }, { on := 12, ground := Ground.phase }], guard := none }) (v := ?vq25) rfl (by as_aux_lemma => kernel_rfl) (by as_aux_lemma => kernel_rfl) (by as_aux_lemma => kernel_rfl) (fun _ _ _ h => h) (Or.inl ⟨by rfl, ?yq25⟩) (by assumption) ?rq25
    case yq25 => (intro w hSw; (try dsimp only at hSw); go_simp <;> with_reducible rfl)
    simp only [Act.put, List.setIfInBounds_toArray, List.set_cons_zero, List.set_cons_succ]
    refine wpAnyH_ready (rs := [16]) (by as_aux_lemma => kernel_rfl) (by simp) ?_
    refine AllReadyH.cons (o := { dst := none, op := Op.store 24 (Operand.tmp 32) (Operand.tmp 29), type := 0, pos := "reader.go:81", after := #[{ on := 15, ground := Ground.data }, { on := 12, ground := Ground.data }, { on := 12, ground := Ground.chain }, { on := 0, ground := Ground.phase }, { on := 1, ground := Ground.phase }, { on := 2, ground := Ground.phase }, { on := 3, ground := Ground.phase }, { on := 4, ground := Ground.phase }, { on := 5, ground := Ground.phase }, { on := 6, ground := Ground.phase }, { on := 7, ground := Ground.phase }, { on := 8, ground := Ground.phase }, { on := 9, ground := Ground.phase }, { on := 10, ground := Ground.phase }, { on := 11, ground := Ground.phase }, { on := 12, ground := Ground.phase }], guard := none }) rfl (fun K hK => ?_) (by exact AllReadyH.nil)
    rw [if_pos (by rfl)]
    go_simp
    refine hK.out _ _ (by (try dsimp only); (try trivial)) (fun hHeld => ?_)
    clear hK K
    simp only [List.setIfInBounds_toArray, List.set_cons_zero, List.set_cons_succ]
    refine wpAnyH_done (by as_aux_lemma => kernel_rfl) ?_ _
    clear hHeld
    go_wp2_with fail
    go_end0
    obtain ⟨v3, vc', g1, g2, g3, g4, g5, g6⟩ := HF.out
    have hs : WD.heap.size = w.heap.size := by rw [← HD.out.2]; rfl
    exact ⟨rfl, v3, vc', g1, g2, g3, g4.imp id (fun ⟨g, h1, h2⟩ => ⟨g, h1, by omega⟩), (show Below n₀ w WD by rw [← HD.out.2]; exact ⟨rfl, rfl, rfl, Nat.le_refl _, fun _ _ => rfl⟩).trans g5, (KeptM.grown HD.out.1 (fun _ e => by cases e)).trans g6⟩
  refine AllReadyH.cons (o := { dst := some 26, op := Op.call { callee := Callee.value (Operand.func 141), args := #[Operand.tmp 25], argTypes := #[147] }, type := 23, pos := "reader.go:81", after := #[{ on := 8, ground := Ground.data }, { on := 7, ground := Ground.chain }], guard := none }) rfl (fun K hK => ?_) (by exact AllReadyH.nil)
  rw [if_pos (by rfl)]
  go_simp
  have HL := Lib.hid (label_ok R b (k + 1) cs u v1 num df vc (.slice none 0 0) w1 H1.out.1 H1.out.2.1 HK.out.2.1 HK.out.2.2.2.2.1 (fun X hX => H0.out.2.2.2 X ⟨hX.os.trans H1.out.2.2.os, hX.tape.trans H1.out.2.2.tape, hX.output.trans H1.out.2.2.output, Nat.le_trans H1.out.2.2.size hX.size, fun i hi hr => (hX.block i (Nat.lt_of_lt_of_le hi H1.out.2.2.size) hr).trans (H1.out.2.2.block i hi hr)⟩) HK.out.2.2.2.2.2.1)
  rw [HK.out.2.2.2.2.2.2] at HL
  refine (HL.out).mono ?_
  rintro e w2 ⟨rfl, v2, hR2, hb2, hg2⟩
  obtain ⟨gn, cn, w5, hap, cB, c5, f5, hfin⟩ := clear_end R b (k + 2) l n₀ cs T v2 num df vc ls WD w1 w2 hR2 hb2 H1.out.2.2 hg2 H0.out.2.2.1 HN.out
  have cC : w2.cell? ⟨R, 3, none⟩ = some vc := cell_of_row w2 R 3 _ _ _ hR2
  have hbs := slice_clear (lowA_ad (valL T)) l w2
  have HF := Lib.hid hfin
  obtain ⟨NL, hNL⟩ : ∃ NL, ls.length + 1 = NL := ⟨_, rfl⟩
  rw [hNL] at hap HF
  clear hR2 hb2 hg2 hfin HL hNL
  refine hK.out _ _ (by (try dsimp only); (try trivial)) (fun hHeld => ?_)
  clear hK K
  simp only [List.setIfInBounds_toArray, List.set_cons_zero, List.set_cons_succ]
  refine wpAnyH_take (i := 10) (oi := { dst := some 27, op := Op.build 72 #[(0, Operand.tmp 24), (1, Operand.tmp 26)], type := 72, pos := "reader.go:81", after := #[{ on := 7, ground := Ground.data }, { on := 9, ground := Ground.data }], guard := none }) (v := .agg (clC (lowA (valL T), l))) rfl (by as_aux_lemma => kernel_rfl) (by as_aux_lemma => kernel_rfl) (by as_aux_lemma => kernel_rfl) (fun _ _ _ h => h) (yieldsIf_build (by rfl) 72 _ rfl #[(0, .agg (adC (lowA (valL T)))), (1, .int .u64 (l : Nat))] (by simp only [List.map_toArray, List.map_cons, List.map_nil]; rfl) _ hbld) (by assumption) ?_
  simp only [Act.put, List.setIfInBounds_toArray, List.set_cons_zero, List.set_cons_succ]
  refine wpAnyH_ready (rs := [5, 11]) (by as_aux_lemma => kernel_rfl) (by simp) ?_
  refine AllReadyH.cons (o := { dst := some 22, op := Op.load 24 (Operand.tmp 21), type := 24, pos := "reader.go:81", after := #[{ on := 4, ground := Ground.data }], guard := none }) rfl (fun K hK => ?_) ?_
  · rw [if_pos (by rfl)]
    go_simp
    refine hK.out _ _ (by (try dsimp only); (try trivial)) (fun hHeld => ?_)
    clear hK K
    simp only [List.setIfInBounds_toArray, List.set_cons_zero, List.set_cons_succ]
    refine wpAnyH_ready (rs := [11]) (by as_aux_lemma => kernel_rfl) (by simp) ?_
    refine AllReadyH.cons (o := { dst := some 28, op := Op.buildSlice 24 1 #[(0, Operand.tmp 27)], type := 24, pos := "reader.go:81", after := #[{ on := 10, ground := Ground.data }], guard := none }) rfl (fun K hK => ?_) (by exact AllReadyH.nil)
    rw [if_pos (by rfl)]
    refine wp_bslice_run 24 1 _ rfl #[(0, .agg (clC (lowA (valL T), l)))] (by simp only [List.map_toArray, List.map_cons, List.map_nil]; rfl) hbs ?_
    refine hK.out _ _ (by (try dsimp only); (try trivial)) (fun hHeld => ?_)
    clear hK K
    simp only [List.setIfInBounds_toArray, List.set_cons_zero, List.set_cons_succ]
    refine wpAnyH_ready (rs := [12]) (by as_aux_lemma => kernel_rfl) (by simp) ?_
    refine AllReadyH.cons (o := { dst := some 29, op := Op.call { callee := Callee.builtin Builtin.append, args := #[Operand.tmp 22, Operand.tmp 28], argTypes := #[24, 24] }, type := 24, pos := "reader.go:81", after := #[{ on := 5, ground := Ground.data }, { on := 11, ground := Ground.data }, { on := 9, ground := Ground.chain }], guard := none }) rfl (fun K hK => ?_) (by exact AllReadyH.nil)
    rw [if_pos (by rfl)]
    refine wp_app_run (.tmp 22) (.tmp 28) 24 rfl rfl rfl hap ?_
    refine hK.out _ _ (by (try dsimp only); (try trivial)) (fun hHeld => ?_)
    clear hK K
    simp only [List.setIfInBounds_toArray, List.set_cons_zero, List.set_cons_succ]
    refine wpAnyH_take (i := 13) (oi := { dst := some 30, op := Op.nilCheck (Operand.tmp 17), type := 0, pos := "reader.go:81", after := #[{ on := 0, ground := Ground.data }, { on := 0, ground := Ground.phase }, { on := 1, ground := Ground.phase }, { on := 2, ground := Ground.phase }, { on := 3, ground := Ground.phase }, { on := 4, ground := Ground.phase }, { on := 5, ground := Ground.phase }, { on := 6, ground := Ground.phase }, { on := 7, ground := Ground.phase }, { on := 8, ground := Ground.phase }, { on := 9, ground := Ground.phase }, { on := 10, ground := Ground.phase }, { on := 11, ground := Ground.phase }, { on := 12, ground := Ground.phase }], guard := none }) (v := ?vq32) rfl (by as_aux_lemma => kernel_rfl) (by as_aux_lemma => kernel_rfl) (by as_aux_lemma => kernel_rfl) (fun _ _ _ h => h) (Or.inl ⟨by rfl, ?yq32⟩) (by assumption) ?rq32
    case yq32 => (intro w hSw; (try dsimp only at hSw); go_simp <;> with_reducible rfl)
    simp only [Act.put, List.setIfInBounds_toArray, List.set_cons_zero, List.set_cons_succ]
    refine wpAnyH_take (i := 14) (oi := { dst := some 31, op := Op.fieldAddr 141 (Operand.tmp 30) 2, type := 0, pos := "reader.go:81", after := #[{ on := 13, ground := Ground.data }, { on := 0, ground := Ground.phase }, { on := 1, ground := Ground.phase }, { on := 2, ground := Ground.phase }, { on := 3, ground := Ground.phase }, { on := 4, ground := Ground.phase }, { on := 5, ground := Ground.phase }, { on := 6, ground := Ground.phase }, { on := 7, ground := Ground.phase }, { on := 8, ground := Ground.phase }, { on := 9, ground := Ground.phase }, { on := 10, ground := Ground.phase }, { on := 11, ground := Ground.phase }, { on := 12, ground := Ground.phase }], guard := none }) (v := ?vq33) rfl (by as_aux_lemma => kernel_rfl) (by as_aux_lemma => kernel_rfl) (by as_aux_lemma => kernel_rfl) (fun _ _ _ h => h) (Or.inl ⟨by rfl, ?yq33⟩) (by assumption) ?rq33
    case yq33 => (intro w hSw; (try dsimp only at hSw); go_simp <;> with_reducible rfl)
    simp only [Act.put, List.setIfInBounds_toArray, List.set_cons_zero, List.set_cons_succ]
    refine wpAnyH_take (i := 15) (oi := { dst := some 32, op := Op.fieldAddr 27 (Operand.tmp 31) 1, type := 0, pos := "reader.go:81", after := #[{ on := 14, ground := Ground.data }, { on := 0, ground := Ground.phase }, { on := 1, ground := Ground.phase }, { on := 2, ground := Ground.phase }, { on := 3, ground := Ground.phase }, { on := 4, ground := Ground.phase }, { on := 5, ground := Ground.phase }, { on := 6, ground := Ground.phase }, { on := 7, ground := Ground.phase }, { on := 8, ground := Ground.phase }, { on := 9, ground := Ground.phase }, { on := 10, ground := Ground.phase }, { on := 11, ground := Ground.phase }, { on := 12, ground := Ground.phase }], guard := none }) (v := ?vq34) rfl (by as_aux_lemma => kernel_rfl) (by as_aux_lemma => kernel_rfl) (by as_aux_lemma => kernel_rfl) (fun _ _ _ h => h) (Or.inl ⟨by rfl, ?yq34⟩) (by assumption) ?rq34
    case yq34 => (intro w hSw; (try dsimp only at hSw); go_simp <;> with_reducible rfl)
    simp only [Act.put, List.setIfInBounds_toArray, List.set_cons_zero, List.set_cons_succ]
    refine wpAnyH_ready (rs := [16]) (by as_aux_lemma => kernel_rfl) (by simp) ?_
    refine AllReadyH.cons (o := { dst := none, op := Op.store 24 (Operand.tmp 32) (Operand.tmp 29), type := 0, pos := "reader.go:81", after := #[{ on := 15, ground := Ground.data }, { on := 12, ground := Ground.data }, { on := 12, ground := Ground.chain }, { on := 0, ground := Ground.phase }, { on := 1, ground := Ground.phase }, { on := 2, ground := Ground.phase }, { on := 3, ground := Ground.phase }, { on := 4, ground := Ground.phase }, { on := 5, ground := Ground.phase }, { on := 6, ground := Ground.phase }, { on := 7, ground := Ground.phase }, { on := 8, ground := Ground.phase }, { on := 9, ground := Ground.phase }, { on := 10, ground := Ground.phase }, { on := 11, ground := Ground.phase }, { on := 12, ground := Ground.phase }], guard := none }) rfl (fun K hK => ?_) (by exact AllReadyH.nil)
    rw [if_pos (by rfl)]
    go_simp
    refine hK.out _ _ (by (try dsimp only); (try trivial)) (fun hHeld => ?_)
    clear hK K
    simp only [List.setIfInBounds_toArray, List.set_cons_zero, List.set_cons_succ]
    refine wpAnyH_done (by as_aux_lemma => kernel_rfl) ?_ _
    clear hHeld
    go_wp2_with fail
    go_end0
    obtain ⟨v3, vc', g1, g2, g3, g4, g5, g6⟩ := HF.out
    have hs : WD.heap.size = w.heap.size := by rw [← HD.out.2]; rfl
    exact ⟨rfl, v3, vc', g1, g2, g3, g4.imp id (fun ⟨g, h1, h2⟩ => ⟨g, h1, by omega⟩), (show Below n₀ w WD by rw [← HD.out.2]; exact ⟨rfl, rfl, rfl, Nat.le_refl _, fun _ _ => rfl⟩).trans g5, (KeptM.grown HD.out.1 (fun _ e => by cases e)).trans g6⟩
  refine AllReadyH.cons (o := { dst := some 28, op := Op.buildSlice 24 1 #[(0, Operand.tmp 27)], type := 24, pos := "reader.go:81", after := #[{ on := 10, ground := Ground.data }], guard := none }) rfl (fun K hK => ?_) (by exact AllReadyH.nil)
  rw [if_pos (by rfl)]
  refine wp_bslice_run 24 1 _ rfl #[(0, .agg (clC (lowA (valL T), l)))] (by simp only [List.map_toArray, List.map_cons, List.map_nil]; rfl) hbs ?_
  refine hK.out _ _ (by (try dsimp only); (try trivial)) (fun hHeld => ?_)
  clear hK K
  simp only [List.setIfInBounds_toArray, List.set_cons_zero, List.set_cons_succ]
  refine wpAnyH_ready (rs := [5]) (by as_aux_lemma => kernel_rfl) (by simp) ?_
  refine AllReadyH.cons (o := { dst := some 22, op := Op.load 24 (Operand.tmp 21), type := 24, pos := "reader.go:81", after := #[{ on := 4, ground := Ground.data }], guard := none }) rfl (fun K hK => ?_) (by exact AllReadyH.nil)
  rw [if_pos (by rfl)]
  go_simp
  refine hK.out _ _ (by (try dsimp only); (try trivial)) (fun hHeld => ?_)
  clear hK K
  simp only [List.setIfInBounds_toArray, List.set_cons_zero, List.set_cons_succ]
  refine wpAnyH_ready (rs := [12]) (by as_aux_lemma => kernel_rfl) (by simp) ?_
  refine AllReadyH.cons (o := { dst := some 29, op := Op.call { callee := Callee.builtin Builtin.append, args := #[Operand.tmp 22, Operand.tmp 28], argTypes := #[24, 24] }, type := 24, pos := "reader.go:81", after := #[{ on := 5, ground := Ground.data }, { on := 11, ground := Ground.data }, { on := 9, ground := Ground.chain }], guard := none }) rfl (fun K hK => ?_) (by exact AllReadyH.nil)
  rw [if_pos (by rfl)]
  refine wp_app_run (.tmp 22) (.tmp 28) 24 rfl rfl rfl hap ?_
  refine hK.out _ _ (by (try dsimp only); (try trivial)) (fun hHeld => ?_)
  clear hK K
  simp only [List.setIfInBounds_toArray, List.set_cons_zero, List.set_cons_succ]
  refine wpAnyH_take (i := 13) (oi := { dst := some 30, op := Op.nilCheck (Operand.tmp 17), type := 0, pos := "reader.go:81", after := #[{ on := 0, ground := Ground.data }, { on := 0, ground := Ground.phase }, { on := 1, ground := Ground.phase }, { on := 2, ground := Ground.phase }, { on := 3, ground := Ground.phase }, { on := 4, ground := Ground.phase }, { on := 5, ground := Ground.phase }, { on := 6, ground := Ground.phase }, { on := 7, ground := Ground.phase }, { on := 8, ground := Ground.phase }, { on := 9, ground := Ground.phase }, { on := 10, ground := Ground.phase }, { on := 11, ground := Ground.phase }, { on := 12, ground := Ground.phase }], guard := none }) (v := ?vq39) rfl (by as_aux_lemma => kernel_rfl) (by as_aux_lemma => kernel_rfl) (by as_aux_lemma => kernel_rfl) (fun _ _ _ h => h) (Or.inl ⟨by rfl, ?yq39⟩) (by assumption) ?rq39
  case yq39 => (intro w hSw; (try dsimp only at hSw); go_simp <;> with_reducible rfl)
  simp only [Act.put, List.setIfInBounds_toArray, List.set_cons_zero, List.set_cons_succ]
  refine wpAnyH_take (i := 14) (oi := { dst := some 31, op := Op.fieldAddr 141 (Operand.tmp 30) 2, type := 0, pos := "reader.go:81", after := #[{ on := 13, ground := Ground.data }, { on := 0, ground := Ground.phase }, { on := 1, ground := Ground.phase }, { on := 2, ground := Ground.phase }, { on := 3, ground := Ground.phase }, { on := 4, ground := Ground.phase }, { on := 5, ground := Ground.phase }, { on := 6, ground := Ground.phase }, { on := 7, ground := Ground.phase }, { on := 8, ground := Ground.phase }, { on := 9, ground := Ground.phase }, { on := 10, ground := Ground.phase }, { on := 11, ground := Ground.phase }, { on := 12, ground := Ground.phase }], guard := none }) (v := ?vq40) rfl (by as_aux_lemma => kernel_rfl) (by as_aux_lemma => kernel_rfl) (by as_aux_lemma => kernel_rfl) (fun _ _ _ h => h) (Or.inl ⟨by rfl, ?yq40⟩) (by assumption) ?rq40
  case yq40 => (intro w hSw; (try dsimp only at hSw); go_simp <;> with_reducible rfl)
  simp only [Act.put, List.setIfInBounds_toArray, List.set_cons_zero, List.set_cons_succ]
  refine wpAnyH_take (i := 15) (oi := { dst := some 32, op := Op.fieldAddr 27 (Operand.tmp 31) 1, type := 0, pos := "reader.go:81", after := #[{ on := 14, ground := Ground.data }, { on := 0, ground := Ground.phase }, { on := 1, ground := Ground.phase }, { on := 2, ground := Ground.phase }, { on := 3, ground := Ground.phase }, { on := 4, ground := Ground.phase }, { on := 5, ground := Ground.phase }, { on := 6, ground := Ground.phase }, { on := 7, ground := Ground.phase }, { on := 8, ground := Ground.phase }, { on := 9, ground := Ground.phase }, { on := 10, ground := Ground.phase }, { on := 11, ground := Ground.phase }, { on := 12, ground := Ground.phase }], guard := none }) (v := ?vq41) rfl (by as_aux_lemma => kernel_rfl) (by as_aux_lemma => kernel_rfl) (by as_aux_lemma => kernel_rfl) (fun _ _ _ h => h) (Or.inl ⟨by rfl, ?yq41⟩) (by assumption) ?rq41
  case yq41 => (intro w hSw; (try dsimp only at hSw); go_simp <;> with_reducible rfl)
  simp only [Act.put, List.setIfInBounds_toArray, List.set_cons_zero, List.set_cons_succ]
  refine wpAnyH_ready (rs := [16]) (by as_aux_lemma => kernel_rfl) (by simp) ?_
  refine AllReadyH.cons (o := { dst := none, op := Op.store 24 (Operand.tmp 32) (Operand.tmp 29), type := 0, pos := "reader.go:81", after := #[{ on := 15, ground := Ground.data }, { on := 12, ground := Ground.data }, { on := 12, ground := Ground.chain }, { on := 0, ground := Ground.phase }, { on := 1, ground := Ground.phase }, { on := 2, ground := Ground.phase }, { on := 3, ground := Ground.phase }, { on := 4, ground := Ground.phase }, { on := 5, ground := Ground.phase }, { on := 6, ground := Ground.phase }, { on := 7, ground := Ground.phase }, { on := 8, ground := Ground.phase }, { on := 9, ground := Ground.phase }, { on := 10, ground := Ground.phase }, { on := 11, ground := Ground.phase }, { on := 12, ground := Ground.phase }], guard := none }) rfl (fun K hK => ?_) (by exact AllReadyH.nil)
  rw [if_pos (by rfl)]
  go_simp
  refine hK.out _ _ (by (try dsimp only); (try trivial)) (fun hHeld => ?_)
  clear hK K
  simp only [List.setIfInBounds_toArray, List.set_cons_zero, List.set_cons_succ]
  refine wpAnyH_done (by as_aux_lemma => kernel_rfl) ?_ _
  clear hHeld
  go_wp2_with fail
  go_end0
  obtain ⟨v3, vc', g1, g2, g3, g4, g5, g6⟩ := HF.out
  have hs : WD.heap.size = w.heap.size := by rw [← HD.out.2]; rfl
  exact ⟨rfl, v3, vc', g1, g2, g3, g4.imp id (fun ⟨g, h1, h2⟩ => ⟨g, h1, by omega⟩), (show Below n₀ w WD by rw [← HD.out.2]; exact ⟨rfl, rfl, rfl, Nat.le_refl _, fun _ _ => rfl⟩).trans g5, (KeptM.grown HD.out.1 (fun _ e => by cases e)).trans g6⟩
end Go.Proofs.YtenepkgjdoddgaaGreatDoor
