/- Texts laid into one: Pq. -/
import Derived.Test.YtenepkgjdoddgaaGreatDoorAc
import Derived.MapKept
import Derived.Defers
import Derived.Recover
import Derived.RecoverIn
/- policy's laws: the reader's lines of a release. -/
namespace Go.Proofs.YtenepkgjdoddgaaGreatDoor
open Go.RowKit Go.Shelf

/-- An own row of releases. -/
def OwR (X : World) (base : Nat) (v : Value) (l : List (List Nat × Nat × Nat)) : Prop := X.ownsRow base 74 22 v l.length (l.flatMap fun c => (rlC c).toList) ∧ ∀ c ∈ l, Ad c.1 ∧ c.2.1 < 4294967296 ∧ c.2.2 < 18446744073709551616
set_option maxRecDepth 100000 in
theorem build_release {a : List Nat} (h : Ad a) (e0 l : Nat) (w : World) : (Instr.build 74 #[(0, .agg (adC a)), (1, .int .u32 (e0 : Nat)), (2, .int .u64 (l : Nat))]).run Tryz.prog w = .ok (.agg (rlC (a, e0, l))) w := by
  obtain ⟨x0, x1, x2, x3, x4, x5, x6, x7, x8, x9, y0, y1, y2, y3, y4, y5, y6, y7, y8, y9, rfl⟩ := ad_lit h
  unfold adC rlC bvs
  exact run_build w _ _ _ (by kernel_rfl)
set_option maxRecDepth 100000 in
theorem slice_release {a : List Nat} (h : Ad a) (e0 l : Nat) (w : World) : (Instr.buildSlice 25 1 #[(0, .agg (rlC (a, e0, l)))]).run Tryz.prog w = .ok (.slice (some ⟨w.heap.size, 0, none⟩) 1 1) (w.alloc (.cells (rlC (a, e0, l)) 74)) := by
  obtain ⟨ie, hie⟩ : ∃ ie, Tryz.prog.info? 74 = some ie := Option.isSome_iff_exists.1 (by kernel_rfl)
  have hz : (Tryz.prog.info? 74).map (fun i => (i.size, i.zero)) = some (22, some (.agg zrC)) := by rw [zrC_lit]; kernel_rfl
  rw [hie] at hz
  simp only [Option.map_some, Option.some.injEq, Prod.mk.injEq] at hz
  obtain ⟨x0, x1, x2, x3, x4, x5, x6, x7, x8, x9, y0, y1, y2, y3, y4, y5, y6, y7, y8, y9, rfl⟩ := ad_lit h
  refine run_buildSlice w 25 74 1 _ _ ie (.agg zrC) (by kernel_rfl) hie hz.2 (by rw [hz.1]; decide) (by rw [hz.1]; decide) ?_
  rw [hz.1, zrC_lit]
  unfold rlC bvs
  kernel_rfl
theorem infoRl : (Tryz.prog.info? 74).map (fun i => (i.zero, i.size, i.bytes)) = some (some (.agg zrC), 22, 32) := by rw [zrC_lit]; kernel_rfl
/-- What becomes of the row of clearances, and of the reader. -/
theorem release_end (R b k e0 l n₀ : Nat) (cs : List ByteArray) (T : List UInt8) (v2 : Value) (num : Nat) (df : Int) (vl vc : Value) (ls : List (List Nat × Nat × Nat)) (w w1 w2 : World) (hR : Rd w2 R v2 num df vl vc) (hb : Wd w2 b cs k v2) (hg1 : w.grownBy w1 (some R)) (hg2 : w1.grownBy w2 (some R))
    (hC : OwR w n₀ vc ls) (hN : n₀ ≤ R ∧ n₀ ≤ w.heap.size ∧ vc.ownBlock ≠ some R ∧ vc.ownBlock ≠ some b ∧ ls.length ≤ 100000 ∧ (e0 < 4294967296 ∧ l < 18446744073709551616) ∧ R < w.heap.size) :
    ∃ (gn cn : Nat) (w5 : World), (Builtin.append_ #[25, 25] 25 #[vc, .slice (some ⟨w2.heap.size, 0, none⟩) 1 1]).run Tryz.prog (w2.alloc (.cells (rlC (lowA (valL T), e0, l)) 74)) = .ok (.slice (some ⟨gn, 0, none⟩) (ls.length + 1) cn) w5 ∧
      (w2.alloc (.cells (rlC (lowA (valL T), e0, l)) 74)).cell? ⟨R, 4, none⟩ = some vc ∧ w5.cell? ⟨R, 4, none⟩ = some vc ∧ w5.frozen? ⟨R, 4, none⟩ = false ∧
      ∃ v3 vc', Rd (w5.setCell ⟨R, 4, none⟩ (.slice (some ⟨gn, 0, none⟩) (ls.length + 1) cn)) R v3 num df vl vc' ∧ Wd (w5.setCell ⟨R, 4, none⟩ (.slice (some ⟨gn, 0, none⟩) (ls.length + 1) cn)) b cs k v3 ∧ OwR (w5.setCell ⟨R, 4, none⟩ (.slice (some ⟨gn, 0, none⟩) (ls.length + 1) cn)) n₀ vc' (ls ++ [(lowA (valL T), e0, l)]) ∧
        (vc'.ownBlock = vc.ownBlock ∨ ∃ g, vc'.ownBlock = some g ∧ w.heap.size ≤ g) ∧ Below n₀ w (w5.setCell ⟨R, 4, none⟩ (.slice (some ⟨gn, 0, none⟩) (ls.length + 1) cn)) ∧ KeptM (fun k => k ≠ R ∧ vc.ownBlock ≠ some k) w (w5.setCell ⟨R, 4, none⟩ (.slice (some ⟨gn, 0, none⟩) (ls.length + 1) cn)) := by
  obtain ⟨hnR, hnw, hCR, hCb, hlen, hl64, hRw⟩ := hN
  have hA := lowA_ad (valL T)
  obtain ⟨i0, hi0, hz0, hz1, hz2⟩ := info_parts' infoRl
  have hg := grown_both hg1 hg2
  have hC2 := hC.1.kept hg (.inr hCR)
  have hal : Below w2.heap.size w2 (w2.alloc (.cells (rlC (lowA (valL T), e0, l)) 74)) := balloc (Below.refl _ _) _
  have hC3 := hC2.kept (grown_new hal) (by cases vc.ownBlock <;> simp)
  have hZ := Blk.new w2 74 (rlC (lowA (valL T), e0, l))
  have hR3 : Rd (w2.alloc (.cells (rlC (lowA (valL T), e0, l)) 74)) R v2 num df vl vc := Rd.kept hR (grown_new hal) (by simp)
  have hb3 : Wd (w2.alloc (.cells (rlC (lowA (valL T), e0, l)) 74)) b cs k v2 := Wd.kept hb (grown_new hal) (by simp)
  have hsz : (w2.alloc (.cells (rlC (lowA (valL T), e0, l)) 74)).heap.size = w2.heap.size + 1 := by simp
  have hnews : ∀ (j : Nat) u, (rlC (lowA (valL T), e0, l)).toList[j]? = some u → (w2.alloc (.cells (rlC (lowA (valL T), e0, l)) 74)).cell? ((⟨w2.heap.size, 0, none⟩ : Addr).add j) = some u := fun j u hj => by
    rw [Go.WideShapes.add_plain, Nat.zero_add, cell_of_row _ w2.heap.size j _ _ _ hZ]
    exact (Array.getElem?_toList ..).symm.trans hj
  have hw2 : w.heap.size ≤ w2.heap.size := hg.size
  obtain ⟨v', w5, hrun, hown5, hg5, _, hat⟩ := run_append_own_at (P := Tryz.prog) (w := w2.alloc (.cells (rlC (lowA (valL T), e0, l)) 74)) n₀ 25 25 74 i0 (.agg zrC) 22 32 (by kernel_rfl) hi0 hz0 hz1 hz2 (by rw [zrC_lit]; rfl) (by decide) vc ls.length _ hC3 ⟨w2.heap.size, 0, none⟩ 1 1 (rlC (lowA (valL T), e0, l)).toList (by rw [rlC_len hA]) hnews (fun u hu => by have := rlC_one (lowA (valL T), e0, l); rw [← Array.all_toList, List.all_eq_true] at this; exact this u hu) (by unfold maxLen; omega) (by omega) (by omega)
  obtain ⟨gn, cn, rfl⟩ := Go.Joins.ownsRow_form hown5 (by omega)
  have hR5 : Rd w5 R v2 num df vl vc := Rd.kept hR3 hg5 hCR
  have hb5 : Wd w5 b cs k v2 := Wd.kept hb3 hg5 hCb
  have hGs := grown_set' (grown_refl w5 R) 4 (.slice (some ⟨gn, 0, none⟩) (ls.length + 1) cn)
  have hv'R : (Value.slice (some ⟨gn, 0, none⟩) (ls.length + 1) cn).ownBlock ≠ some R := fun e => by
    rcases hat with h | h
    · exact hCR (h.symm.trans e)
    · rw [h] at e; have := Option.some.inj e; omega
  have hbel : Below n₀ w (w5.setCell ⟨R, 4, none⟩ (.slice (some ⟨gn, 0, none⟩) (ls.length + 1) cn)) := by
    have h1 : Below n₀ w w2 := (Below.refl n₀ w).grown hg hnw (fun k e => by cases e; exact hnR)
    have h2 := h1.trans (hal.mono (by omega))
    have h3 := h2.grown hg5 (by omega) (fun k e => (hC3.lt k e).1)
    exact h3.setCell (p := ⟨R, 4, none⟩) hnR _
  refine ⟨gn, cn, w5, hrun, cell_of_row _ R 4 _ _ _ hR3, cell_of_row _ R 4 _ _ _ hR5, frozen_of_row _ R 4 _ _ hR5, v2, _, heap_setCell_same w5 R 4 _ _ _ hR5, Wd.kept hb5 hGs (fun e => (hR5.ne hb5) (Option.some.inj e).symm), ⟨?_, ?_⟩, ?_, hbel, ?_⟩
  · have h := hown5.kept hGs (.inr hv'R)
    rw [List.length_append, List.flatMap_append]
    simpa using h
  · intro c hc
    rcases List.mem_append.1 hc with h | h
    · exact hC.2 c h
    · simp at h; subst h; exact ⟨hA, hl64.1, hl64.2⟩
  · rcases hat with h | h
    · exact .inl h
    · exact .inr ⟨_, h, by omega⟩
  · have k1 : KeptM (fun k => k ≠ R ∧ vc.ownBlock ≠ some k) w w2 := KeptM.grown hg (fun r e h => by cases e; exact h.1 rfl)
    have k2 := k1.trans (KeptM.alloc _ w2 (.cells (rlC (lowA (valL T), e0, l)) 74))
    have k3 := k2.trans (KeptM.grown hg5 (fun r e h => h.2 e))
    exact k3.trans (KeptM.grown hGs (fun r e h => by cases e; exact h.1 rfl))
set_option maxRecDepth 100000 in
set_option maxHeartbeats 4000000 in
theorem release_ok (R b k e0 l n₀ : Nat) (cs : List ByteArray) (T : List UInt8) (ue u : ByteArray) (v : Value) (num : Nat) (df : Int) (vl vc : Value) (ls : List (List Nat × Nat × Nat)) (w : World) (hR : Rd w R v num df vl vc) (hb : Wd w b cs k v) (hnum : 0 < num)
    (hk : cs[k]? = some ⟨(48 :: 120 :: T).toArray⟩) (hk1 : cs[k + 1]? = some ue) (hk2 : cs[k + 2]? = some u) (hue : ue.size ≤ 400) (he0 : e0 < 4294967296) (hP : Lib.parseUintB 32 ue.data.toList = .ok e0) (hF : ∀ X, Calls Tryz.prog 51 #[.int .u32 (e0 : Nat)] X fun e w' => e = .returned (.string ue) ∧ Below X.heap.size X w') (hl : T.length = 40) (hok : ∀ y ∈ T, dv y < 16) (hu : u.size ≤ 400) (he : labE u.data.toList = 0) (hlab : labV u.data.toList = l) (hTS : ∀ w', w.grownBy w' (some R) → TZ w') (hn₀ : n₀ ≤ R) (hns : n₀ ≤ w.heap.size)
    (hC : OwR w n₀ vc ls) (hCR : vc.ownBlock ≠ some R ∧ vc.ownBlock ≠ some b) (hl64 : l < 18446744073709551616) (hlen : ls.length ≤ 100000) :
    Calls Tryz.prog 121 #[.pointer (some ⟨R, 0, none⟩)] w fun e w' => e = .returned (.tuple #[]) ∧ ∃ v' vc', Rd w' R v' num df vl vc' ∧ Wd w' b cs (k + 3) v' ∧ OwR w' n₀ vc' (ls ++ [(lowA (valL T), e0, l)]) ∧
      (vc'.ownBlock = vc.ownBlock ∨ ∃ g, vc'.ownBlock = some g ∧ w.heap.size ≤ g) ∧ Below n₀ w w' ∧ KeptM (fun k => k ≠ R ∧ vc.ownBlock ≠ some k) w w' := by
  have c1 : w.cell? ⟨R, 1, none⟩ = some (.int .i64 (num : Nat)) := cell_of_row w R 1 _ _ _ hR
  have c3 : w.cell? ⟨R, 4, none⟩ = some vc := cell_of_row w R 4 _ _ _ hR
  have hnI : (0 : Int) < (num : Int) := by omega
  have hltR := Blk.lt hR
  have HN := Lib.hid (show n₀ ≤ R ∧ n₀ ≤ w.heap.size ∧ vc.ownBlock ≠ some R ∧ vc.ownBlock ≠ some b ∧ ls.length ≤ 100000 ∧ (e0 < 4294967296 ∧ l < 18446744073709551616) ∧ R < w.heap.size from ⟨hn₀, hns, hCR.1, hCR.2, hlen, ⟨he0, hl64⟩, hltR⟩)
  have HK := Lib.hid (And.intro hk (And.intro hk1 (And.intro hl (And.intro hok (And.intro hu (And.intro he (And.intro hlab (And.intro hk2 (And.intro hue (And.intro he0 (And.intro hP hF)))))))))))
  have HH := Lib.hid (And.intro hR (And.intro hb (And.intro hC hTS)))
  clear hR hb hC hTS hk hk1 hk2 hue he0 hP hF hl hok hu he hlab hn₀ hns hCR hl64 hlen hltR
  go_enter Tryz.func121, Tryz.ntmps121
  go_upto_region 1 with (first | (go_at_call 92; refine (need_b _ rfl _).mono ?_; rintro e w' ⟨rfl, rfl⟩) | fail)
  --REG
  obtain ⟨WD, hWD⟩ : ∃ WD, w.drew = WD := ⟨_, rfl⟩
  have hgD : w.grownBy WD none := by rw [← hWD]; exact ⟨rfl, rfl, rfl, Nat.le_refl _, fun _ _ _ => rfl⟩
  have cW : WD.cell? ⟨R, 4, none⟩ = some vc := by rw [← hWD]; exact c3
  have H0 := Lib.hid (show Rd WD R v num df vl vc ∧ Wd WD b cs k v ∧ OwR WD n₀ vc ls ∧ (∀ X, WD.grownBy X (some R) → TZ X) from ⟨Rd.kept HH.out.1 hgD (by simp), Wd.kept HH.out.2.1 hgD (by simp), ⟨HH.out.2.2.1.1.kept hgD (by cases vc.ownBlock <;> simp), HH.out.2.2.1.2⟩, fun X hX => HH.out.2.2.2 X ⟨hX.os.trans hgD.os, hX.tape.trans hgD.tape, hX.output.trans hgD.output, Nat.le_trans hgD.size hX.size, fun i hi hr => (hX.block i (Nat.lt_of_lt_of_le hi hgD.size) hr).trans (hgD.block i hi (by simp))⟩⟩)
  have hWDs : WD.heap.size = w.heap.size := by rw [← hWD]; rfl
  have HD := Lib.hid (And.intro hgD hWD)
  rw [← hWDs] at HN
  clear hgD hWDs c1 c3 hnI hnum
  have hbld := fun X => build_release (lowA_ad (valL T)) e0 l X
  refine wp_region_held_drew (S := fun _ => True) (by as_aux_lemma => kernel_rfl) trivial (fun hHeld => ?_)
  rw [HD.out.2]
  simp only [List.size_toArray, List.length_cons, List.length_nil, Nat.reduceAdd, Array.replicate_succ, Array.replicate_zero, List.push_toArray, List.nil_append, List.cons_append]
  refine wpAnyH_take (i := 0) (oi := { dst := some 8, op := Op.move (Operand.tmp 0), type := 147, pos := "reader.go:87", after := #[], guard := none }) (v := ?vq0) rfl (by as_aux_lemma => kernel_rfl) (by as_aux_lemma => kernel_rfl) (by as_aux_lemma => kernel_rfl) (fun _ _ _ h => h) (Or.inl ⟨by rfl, ?yq0⟩) (by assumption) ?rq0
  case yq0 => (intro w hSw; (try dsimp only at hSw); go_simp <;> with_reducible rfl)
  simp only [Act.put, List.setIfInBounds_toArray, List.set_cons_zero, List.set_cons_succ]
  refine wpAnyH_take (i := 1) (oi := { dst := some 9, op := Op.move (Operand.tmp 0), type := 147, pos := "reader.go:87", after := #[], guard := none }) (v := ?vq1) rfl (by as_aux_lemma => kernel_rfl) (by as_aux_lemma => kernel_rfl) (by as_aux_lemma => kernel_rfl) (fun _ _ _ h => h) (Or.inl ⟨by rfl, ?yq1⟩) (by assumption) ?rq1
  case yq1 => (intro w hSw; (try dsimp only at hSw); go_simp <;> with_reducible rfl)
  simp only [Act.put, List.setIfInBounds_toArray, List.set_cons_zero, List.set_cons_succ]
  refine wpAnyH_take (i := 2) (oi := { dst := some 10, op := Op.nilCheck (Operand.tmp 9), type := 0, pos := "reader.go:87", after := #[{ on := 1, ground := Ground.data }], guard := none }) (v := ?vq2) rfl (by as_aux_lemma => kernel_rfl) (by as_aux_lemma => kernel_rfl) (by as_aux_lemma => kernel_rfl) (fun _ _ _ h => h) (Or.inl ⟨by rfl, ?yq2⟩) (by assumption) ?rq2
  case yq2 => (intro w hSw; (try dsimp only at hSw); go_simp <;> with_reducible rfl)
  simp only [Act.put, List.setIfInBounds_toArray, List.set_cons_zero, List.set_cons_succ]
  refine wpAnyH_take (i := 3) (oi := { dst := some 11, op := Op.fieldAddr 141 (Operand.tmp 10) 2, type := 0, pos := "reader.go:87", after := #[{ on := 2, ground := Ground.data }], guard := none }) (v := ?vq3) rfl (by as_aux_lemma => kernel_rfl) (by as_aux_lemma => kernel_rfl) (by as_aux_lemma => kernel_rfl) (fun _ _ _ h => h) (Or.inl ⟨by rfl, ?yq3⟩) (by assumption) ?rq3
  case yq3 => (intro w hSw; (try dsimp only at hSw); go_simp <;> with_reducible rfl)
  simp only [Act.put, List.setIfInBounds_toArray, List.set_cons_zero, List.set_cons_succ]
  refine wpAnyH_take (i := 4) (oi := { dst := some 12, op := Op.fieldAddr 27 (Operand.tmp 11) 2, type := 0, pos := "reader.go:87", after := #[{ on := 3, ground := Ground.data }], guard := none }) (v := ?vq4) rfl (by as_aux_lemma => kernel_rfl) (by as_aux_lemma => kernel_rfl) (by as_aux_lemma => kernel_rfl) (fun _ _ _ h => h) (Or.inl ⟨by rfl, ?yq4⟩) (by assumption) ?rq4
  case yq4 => (intro w hSw; (try dsimp only at hSw); go_simp <;> with_reducible rfl)
  simp only [Act.put, List.setIfInBounds_toArray, List.set_cons_zero, List.set_cons_succ]
  refine wpAnyH_take (i := 6) (oi := { dst := some 14, op := Op.move (Operand.tmp 0), type := 147, pos := "reader.go:87", after := #[], guard := none }) (v := ?vq5) rfl (by as_aux_lemma => kernel_rfl) (by as_aux_lemma => kernel_rfl) (by as_aux_lemma => kernel_rfl) (fun _ _ _ h => h) (Or.inl ⟨by rfl, ?yq5⟩) (by assumption) ?rq5
  case yq5 => (intro w hSw; (try dsimp only at hSw); go_simp <;> with_reducible rfl)
  simp only [Act.put, List.setIfInBounds_toArray, List.set_cons_zero, List.set_cons_succ]
  refine wpAnyH_take (i := 8) (oi := { dst := some 16, op := Op.move (Operand.tmp 0), type := 147, pos := "reader.go:87", after := #[], guard := none }) (v := ?vq6) rfl (by as_aux_lemma => kernel_rfl) (by as_aux_lemma => kernel_rfl) (by as_aux_lemma => kernel_rfl) (fun _ _ _ h => h) (Or.inl ⟨by rfl, ?yq6⟩) (by assumption) ?rq6
  case yq6 => (intro w hSw; (try dsimp only at hSw); go_simp <;> with_reducible rfl)
  simp only [Act.put, List.setIfInBounds_toArray, List.set_cons_zero, List.set_cons_succ]
  refine wpAnyH_take (i := 10) (oi := { dst := some 18, op := Op.move (Operand.tmp 0), type := 147, pos := "reader.go:87", after := #[], guard := none }) (v := ?vq7) rfl (by as_aux_lemma => kernel_rfl) (by as_aux_lemma => kernel_rfl) (by as_aux_lemma => kernel_rfl) (fun _ _ _ h => h) (Or.inl ⟨by rfl, ?yq7⟩) (by assumption) ?rq7
  case yq7 => (intro w hSw; (try dsimp only at hSw); go_simp <;> with_reducible rfl)
  simp only [Act.put, List.setIfInBounds_toArray, List.set_cons_zero, List.set_cons_succ]
  refine wpAnyH_ready (rs := [5, 7]) (by as_aux_lemma => kernel_rfl) (by simp) ?_
  refine AllReadyH.cons (o := { dst := some 13, op := Op.load 25 (Operand.tmp 12), type := 25, pos := "reader.go:87", after := #[{ on := 4, ground := Ground.data }], guard := none }) rfl (fun K hK => ?_) ?_
  · rw [if_pos (by rfl)]
    go_simp
    refine hK.out _ _ (by (try dsimp only); (try trivial)) (fun hHeld => ?_)
    clear hK K
    simp only [List.setIfInBounds_toArray, List.set_cons_zero, List.set_cons_succ]
    refine wpAnyH_ready (rs := [7]) (by as_aux_lemma => kernel_rfl) (by simp) ?_
    refine AllReadyH.cons (o := { dst := some 15, op := Op.call { callee := Callee.value (Operand.func 142), args := #[Operand.tmp 14], argTypes := #[147] }, type := 29, pos := "reader.go:87", after := #[{ on := 6, ground := Ground.data }], guard := none }) rfl (fun K hK => ?_) (by exact AllReadyH.nil)
    rw [if_pos (by rfl)]
    go_simp
    refine (raddr_ok R b k cs T v num df vl vc _ H0.out.1 H0.out.2.1 HK.out.1 HK.out.2.2.1 HK.out.2.2.2.1).mono ?_
    rintro e w1 ⟨rfl, v1, hR1, hb1, hg1⟩
    have cA : w1.cell? ⟨R, 4, none⟩ = some vc := cell_of_row w1 R 4 _ _ _ hR1
    have H1 := Lib.hid (And.intro hR1 (And.intro hb1 hg1))
    clear hR1 hb1 hg1
    refine hK.out _ _ (by (try dsimp only); (try trivial)) (fun hHeld => ?_)
    clear hK K
    simp only [List.setIfInBounds_toArray, List.set_cons_zero, List.set_cons_succ]
    refine wpAnyH_ready (rs := [9]) (by as_aux_lemma => kernel_rfl) (by simp) ?_
    refine AllReadyH.cons (o := { dst := some 17, op := Op.call { callee := Callee.value (Operand.func 143), args := #[Operand.tmp 16], argTypes := #[147] }, type := 30, pos := "reader.go:87", after := #[{ on := 8, ground := Ground.data }, { on := 7, ground := Ground.chain }], guard := none }) rfl (fun K hK => ?_) (by exact AllReadyH.nil)
    rw [if_pos (by rfl)]
    go_simp
    have HL0 := Lib.hid (entry_ok R b (k + 1) e0 cs ue v1 num df vl vc w1 H1.out.1 H1.out.2.1 HK.out.2.1 HK.out.2.2.2.2.2.2.2.2.1 HK.out.2.2.2.2.2.2.2.2.2.1 HK.out.2.2.2.2.2.2.2.2.2.2.1 HK.out.2.2.2.2.2.2.2.2.2.2.2)
    refine (HL0.out).mono ?_
    rintro e w2 ⟨rfl, v2, hR2, hb2, hg2⟩
    have cB : w2.cell? ⟨R, 4, none⟩ = some vc := cell_of_row w2 R 4 _ _ _ hR2
    have H2 := Lib.hid (And.intro hR2 (And.intro hb2 (grown_both H1.out.2.2 hg2)))
    clear hR2 hb2 hg2 HL0
    refine hK.out _ _ (by (try dsimp only); (try trivial)) (fun hHeld => ?_)
    clear hK K
    simp only [List.setIfInBounds_toArray, List.set_cons_zero, List.set_cons_succ]
    refine wpAnyH_ready (rs := [11]) (by as_aux_lemma => kernel_rfl) (by simp) ?_
    refine AllReadyH.cons (o := { dst := some 19, op := Op.call { callee := Callee.value (Operand.func 141), args := #[Operand.tmp 18], argTypes := #[147] }, type := 23, pos := "reader.go:87", after := #[{ on := 10, ground := Ground.data }, { on := 9, ground := Ground.chain }], guard := none }) rfl (fun K hK => ?_) (by exact AllReadyH.nil)
    rw [if_pos (by rfl)]
    go_simp
    have HL := Lib.hid (label_ok R b (k + 2) cs u v2 num df vl vc w2 H2.out.1 H2.out.2.1 HK.out.2.2.2.2.2.2.2.1 HK.out.2.2.2.2.1 (fun X hX => H0.out.2.2.2 X (grown_both H2.out.2.2 hX)) HK.out.2.2.2.2.2.1)
    rw [HK.out.2.2.2.2.2.2.1] at HL
    refine (HL.out).mono ?_
    rintro e w3 ⟨rfl, v3, hR3, hb3, hg3⟩
    obtain ⟨gn, cn, w5, hap, cC, c5, f5, hfin⟩ := release_end R b (k + 3) e0 l n₀ cs T v3 num df vl vc ls WD w2 w3 hR3 hb3 H2.out.2.2 hg3 H0.out.2.2.1 HN.out
    have cD : w3.cell? ⟨R, 4, none⟩ = some vc := cell_of_row w3 R 4 _ _ _ hR3
    have hbs := slice_release (lowA_ad (valL T)) e0 l w3
    have HF := Lib.hid hfin
    obtain ⟨NL, hNL⟩ : ∃ NL, ls.length + 1 = NL := ⟨_, rfl⟩
    rw [hNL] at hap HF
    clear hR3 hb3 hg3 hfin HL hNL
    refine hK.out _ _ (by (try dsimp only); (try trivial)) (fun hHeld => ?_)
    clear hK K
    simp only [List.setIfInBounds_toArray, List.set_cons_zero, List.set_cons_succ]
    refine wpAnyH_take (i := 12) (oi := { dst := some 20, op := Op.build 74 #[(0, Operand.tmp 15), (1, Operand.tmp 17), (2, Operand.tmp 19)], type := 74, pos := "reader.go:87", after := #[{ on := 7, ground := Ground.data }, { on := 9, ground := Ground.data }, { on := 11, ground := Ground.data }], guard := none }) (v := .agg (rlC (lowA (valL T), e0, l))) rfl (by as_aux_lemma => kernel_rfl) (by as_aux_lemma => kernel_rfl) (by as_aux_lemma => kernel_rfl) (fun _ _ _ h => h) (yieldsIf_build (by rfl) 74 _ rfl #[(0, .agg (adC (lowA (valL T)))), (1, .int .u32 (e0 : Nat)), (2, .int .u64 (l : Nat))] (by simp only [List.map_toArray, List.map_cons, List.map_nil]; rfl) _ hbld) (by assumption) ?_
    simp only [Act.put, List.setIfInBounds_toArray, List.set_cons_zero, List.set_cons_succ]
    refine wpAnyH_ready (rs := [13]) (by as_aux_lemma => kernel_rfl) (by simp) ?_
    refine AllReadyH.cons (o := { dst := some 21, op := Op.buildSlice 25 1 #[(0, Operand.tmp 20)], type := 25, pos := "reader.go:87", after := #[{ on := 12, ground := Ground.data }], guard := none }) rfl (fun K hK => ?_) (by exact AllReadyH.nil)
    rw [if_pos (by rfl)]
    refine wp_bslice_run 25 1 _ rfl #[(0, .agg (rlC (lowA (valL T), e0, l)))] (by simp only [List.map_toArray, List.map_cons, List.map_nil]; rfl) hbs ?_
    refine hK.out _ _ (by (try dsimp only); (try trivial)) (fun hHeld => ?_)
    clear hK K
    simp only [List.setIfInBounds_toArray, List.set_cons_zero, List.set_cons_succ]
    refine wpAnyH_ready (rs := [14]) (by as_aux_lemma => kernel_rfl) (by simp) ?_
    refine AllReadyH.cons (o := { dst := some 22, op := Op.call { callee := Callee.builtin Builtin.append, args := #[Operand.tmp 13, Operand.tmp 21], argTypes := #[25, 25] }, type := 25, pos := "reader.go:87", after := #[{ on := 5, ground := Ground.data }, { on := 13, ground := Ground.data }, { on := 11, ground := Ground.chain }], guard := none }) rfl (fun K hK => ?_) (by exact AllReadyH.nil)
    rw [if_pos (by rfl)]
    refine wp_app_run (.tmp 13) (.tmp 21) 25 rfl rfl rfl hap ?_
    refine hK.out _ _ (by (try dsimp only); (try trivial)) (fun hHeld => ?_)
    clear hK K
    simp only [List.setIfInBounds_toArray, List.set_cons_zero, List.set_cons_succ]
    refine wpAnyH_take (i := 15) (oi := { dst := some 23, op := Op.nilCheck (Operand.tmp 8), type := 0, pos := "reader.go:87", after := #[{ on := 0, ground := Ground.data }, { on := 0, ground := Ground.phase }, { on := 1, ground := Ground.phase }, { on := 2, ground := Ground.phase }, { on := 3, ground := Ground.phase }, { on := 4, ground := Ground.phase }, { on := 5, ground := Ground.phase }, { on := 6, ground := Ground.phase }, { on := 7, ground := Ground.phase }, { on := 8, ground := Ground.phase }, { on := 9, ground := Ground.phase }, { on := 10, ground := Ground.phase }, { on := 11, ground := Ground.phase }, { on := 12, ground := Ground.phase }, { on := 13, ground := Ground.phase }, { on := 14, ground := Ground.phase }], guard := none }) (v := ?vq15) rfl (by as_aux_lemma => kernel_rfl) (by as_aux_lemma => kernel_rfl) (by as_aux_lemma => kernel_rfl) (fun _ _ _ h => h) (Or.inl ⟨by rfl, ?yq15⟩) (by assumption) ?rq15
    case yq15 => (intro w hSw; (try dsimp only at hSw); go_simp <;> with_reducible rfl)
    simp only [Act.put, List.setIfInBounds_toArray, List.set_cons_zero, List.set_cons_succ]
    refine wpAnyH_take (i := 16) (oi := { dst := some 24, op := Op.fieldAddr 141 (Operand.tmp 23) 2, type := 0, pos := "reader.go:87", after := #[{ on := 15, ground := Ground.data }, { on := 0, ground := Ground.phase }, { on := 1, ground := Ground.phase }, { on := 2, ground := Ground.phase }, { on := 3, ground := Ground.phase }, { on := 4, ground := Ground.phase }, { on := 5, ground := Ground.phase }, { on := 6, ground := Ground.phase }, { on := 7, ground := Ground.phase }, { on := 8, ground := Ground.phase }, { on := 9, ground := Ground.phase }, { on := 10, ground := Ground.phase }, { on := 11, ground := Ground.phase }, { on := 12, ground := Ground.phase }, { on := 13, ground := Ground.phase }, { on := 14, ground := Ground.phase }], guard := none }) (v := ?vq16) rfl (by as_aux_lemma => kernel_rfl) (by as_aux_lemma => kernel_rfl) (by as_aux_lemma => kernel_rfl) (fun _ _ _ h => h) (Or.inl ⟨by rfl, ?yq16⟩) (by assumption) ?rq16
    case yq16 => (intro w hSw; (try dsimp only at hSw); go_simp <;> with_reducible rfl)
    simp only [Act.put, List.setIfInBounds_toArray, List.set_cons_zero, List.set_cons_succ]
    refine wpAnyH_take (i := 17) (oi := { dst := some 25, op := Op.fieldAddr 27 (Operand.tmp 24) 2, type := 0, pos := "reader.go:87", after := #[{ on := 16, ground := Ground.data }, { on := 0, ground := Ground.phase }, { on := 1, ground := Ground.phase }, { on := 2, ground := Ground.phase }, { on := 3, ground := Ground.phase }, { on := 4, ground := Ground.phase }, { on := 5, ground := Ground.phase }, { on := 6, ground := Ground.phase }, { on := 7, ground := Ground.phase }, { on := 8, ground := Ground.phase }, { on := 9, ground := Ground.phase }, { on := 10, ground := Ground.phase }, { on := 11, ground := Ground.phase }, { on := 12, ground := Ground.phase }, { on := 13, ground := Ground.phase }, { on := 14, ground := Ground.phase }], guard := none }) (v := ?vq17) rfl (by as_aux_lemma => kernel_rfl) (by as_aux_lemma => kernel_rfl) (by as_aux_lemma => kernel_rfl) (fun _ _ _ h => h) (Or.inl ⟨by rfl, ?yq17⟩) (by assumption) ?rq17
    case yq17 => (intro w hSw; (try dsimp only at hSw); go_simp <;> with_reducible rfl)
    simp only [Act.put, List.setIfInBounds_toArray, List.set_cons_zero, List.set_cons_succ]
    refine wpAnyH_ready (rs := [18]) (by as_aux_lemma => kernel_rfl) (by simp) ?_
    refine AllReadyH.cons (o := { dst := none, op := Op.store 25 (Operand.tmp 25) (Operand.tmp 22), type := 0, pos := "reader.go:87", after := #[{ on := 17, ground := Ground.data }, { on := 14, ground := Ground.data }, { on := 14, ground := Ground.chain }, { on := 0, ground := Ground.phase }, { on := 1, ground := Ground.phase }, { on := 2, ground := Ground.phase }, { on := 3, ground := Ground.phase }, { on := 4, ground := Ground.phase }, { on := 5, ground := Ground.phase }, { on := 6, ground := Ground.phase }, { on := 7, ground := Ground.phase }, { on := 8, ground := Ground.phase }, { on := 9, ground := Ground.phase }, { on := 10, ground := Ground.phase }, { on := 11, ground := Ground.phase }, { on := 12, ground := Ground.phase }, { on := 13, ground := Ground.phase }, { on := 14, ground := Ground.phase }], guard := none }) rfl (fun K hK => ?_) (by exact AllReadyH.nil)
    rw [if_pos (by rfl)]
    go_simp
    refine hK.out _ _ (by (try dsimp only); (try trivial)) (fun hHeld => ?_)
    clear hK K
    simp only [List.setIfInBounds_toArray, List.set_cons_zero, List.set_cons_succ]
    refine wpAnyH_done (by as_aux_lemma => kernel_rfl) ?_ _
    clear hHeld
    go_wp2_with fail
    go_end0
    obtain ⟨v4, vc', g1, g2, g3, g4, g5, g6⟩ := HF.out
    have hs : WD.heap.size = w.heap.size := by rw [← HD.out.2]; rfl
    exact ⟨rfl, v4, vc', g1, g2, g3, g4.imp id (fun ⟨g, h1, h2⟩ => ⟨g, h1, by omega⟩), (show Below n₀ w WD by rw [← HD.out.2]; exact ⟨rfl, rfl, rfl, Nat.le_refl _, fun _ _ => rfl⟩).trans g5, (KeptM.grown HD.out.1 (fun _ e => by cases e)).trans g6⟩
  refine AllReadyH.cons (o := { dst := some 15, op := Op.call { callee := Callee.value (Operand.func 142), args := #[Operand.tmp 14], argTypes := #[147] }, type := 29, pos := "reader.go:87", after := #[{ on := 6, ground := Ground.data }], guard := none }) rfl (fun K hK => ?_) (by exact AllReadyH.nil)
  rw [if_pos (by rfl)]
  go_simp
  refine (raddr_ok R b k cs T v num df vl vc _ H0.out.1 H0.out.2.1 HK.out.1 HK.out.2.2.1 HK.out.2.2.2.1).mono ?_
  rintro e w1 ⟨rfl, v1, hR1, hb1, hg1⟩
  have cA : w1.cell? ⟨R, 4, none⟩ = some vc := cell_of_row w1 R 4 _ _ _ hR1
  have H1 := Lib.hid (And.intro hR1 (And.intro hb1 hg1))
  clear hR1 hb1 hg1
  refine hK.out _ _ (by (try dsimp only); (try trivial)) (fun hHeld => ?_)
  clear hK K
  simp only [List.setIfInBounds_toArray, List.set_cons_zero, List.set_cons_succ]
  refine wpAnyH_ready (rs := [5, 9]) (by as_aux_lemma => kernel_rfl) (by simp) ?_
  refine AllReadyH.cons (o := { dst := some 13, op := Op.load 25 (Operand.tmp 12), type := 25, pos := "reader.go:87", after := #[{ on := 4, ground := Ground.data }], guard := none }) rfl (fun K hK => ?_) ?_
  · rw [if_pos (by rfl)]
    go_simp
    refine hK.out _ _ (by (try dsimp only); (try trivial)) (fun hHeld => ?_)
    clear hK K
    simp only [List.setIfInBounds_toArray, List.set_cons_zero, List.set_cons_succ]
    refine wpAnyH_ready (rs := [9]) (by as_aux_lemma => kernel_rfl) (by simp) ?_
    refine AllReadyH.cons (o := { dst := some 17, op := Op.call { callee := Callee.value (Operand.func 143), args := #[Operand.tmp 16], argTypes := #[147] }, type := 30, pos := "reader.go:87", after := #[{ on := 8, ground := Ground.data }, { on := 7, ground := Ground.chain }], guard := none }) rfl (fun K hK => ?_) (by exact AllReadyH.nil)
    rw [if_pos (by rfl)]
    go_simp
    have HL0 := Lib.hid (entry_ok R b (k + 1) e0 cs ue v1 num df vl vc w1 H1.out.1 H1.out.2.1 HK.out.2.1 HK.out.2.2.2.2.2.2.2.2.1 HK.out.2.2.2.2.2.2.2.2.2.1 HK.out.2.2.2.2.2.2.2.2.2.2.1 HK.out.2.2.2.2.2.2.2.2.2.2.2)
    refine (HL0.out).mono ?_
    rintro e w2 ⟨rfl, v2, hR2, hb2, hg2⟩
    have cB : w2.cell? ⟨R, 4, none⟩ = some vc := cell_of_row w2 R 4 _ _ _ hR2
    have H2 := Lib.hid (And.intro hR2 (And.intro hb2 (grown_both H1.out.2.2 hg2)))
    clear hR2 hb2 hg2 HL0
    refine hK.out _ _ (by (try dsimp only); (try trivial)) (fun hHeld => ?_)
    clear hK K
    simp only [List.setIfInBounds_toArray, List.set_cons_zero, List.set_cons_succ]
    refine wpAnyH_ready (rs := [11]) (by as_aux_lemma => kernel_rfl) (by simp) ?_
    refine AllReadyH.cons (o := { dst := some 19, op := Op.call { callee := Callee.value (Operand.func 141), args := #[Operand.tmp 18], argTypes := #[147] }, type := 23, pos := "reader.go:87", after := #[{ on := 10, ground := Ground.data }, { on := 9, ground := Ground.chain }], guard := none }) rfl (fun K hK => ?_) (by exact AllReadyH.nil)
    rw [if_pos (by rfl)]
    go_simp
    have HL := Lib.hid (label_ok R b (k + 2) cs u v2 num df vl vc w2 H2.out.1 H2.out.2.1 HK.out.2.2.2.2.2.2.2.1 HK.out.2.2.2.2.1 (fun X hX => H0.out.2.2.2 X (grown_both H2.out.2.2 hX)) HK.out.2.2.2.2.2.1)
    rw [HK.out.2.2.2.2.2.2.1] at HL
    refine (HL.out).mono ?_
    rintro e w3 ⟨rfl, v3, hR3, hb3, hg3⟩
    obtain ⟨gn, cn, w5, hap, cC, c5, f5, hfin⟩ := release_end R b (k + 3) e0 l n₀ cs T v3 num df vl vc ls WD w2 w3 hR3 hb3 H2.out.2.2 hg3 H0.out.2.2.1 HN.out
    have cD : w3.cell? ⟨R, 4, none⟩ = some vc := cell_of_row w3 R 4 _ _ _ hR3
    have hbs := slice_release (lowA_ad (valL T)) e0 l w3
    have HF := Lib.hid hfin
    obtain ⟨NL, hNL⟩ : ∃ NL, ls.length + 1 = NL := ⟨_, rfl⟩
    rw [hNL] at hap HF
    clear hR3 hb3 hg3 hfin HL hNL
    refine hK.out _ _ (by (try dsimp only); (try trivial)) (fun hHeld => ?_)
    clear hK K
    simp only [List.setIfInBounds_toArray, List.set_cons_zero, List.set_cons_succ]
    refine wpAnyH_take (i := 12) (oi := { dst := some 20, op := Op.build 74 #[(0, Operand.tmp 15), (1, Operand.tmp 17), (2, Operand.tmp 19)], type := 74, pos := "reader.go:87", after := #[{ on := 7, ground := Ground.data }, { on := 9, ground := Ground.data }, { on := 11, ground := Ground.data }], guard := none }) (v := .agg (rlC (lowA (valL T), e0, l))) rfl (by as_aux_lemma => kernel_rfl) (by as_aux_lemma => kernel_rfl) (by as_aux_lemma => kernel_rfl) (fun _ _ _ h => h) (yieldsIf_build (by rfl) 74 _ rfl #[(0, .agg (adC (lowA (valL T)))), (1, .int .u32 (e0 : Nat)), (2, .int .u64 (l : Nat))] (by simp only [List.map_toArray, List.map_cons, List.map_nil]; rfl) _ hbld) (by assumption) ?_
    simp only [Act.put, List.setIfInBounds_toArray, List.set_cons_zero, List.set_cons_succ]
    refine wpAnyH_ready (rs := [13]) (by as_aux_lemma => kernel_rfl) (by simp) ?_
    refine AllReadyH.cons (o := { dst := some 21, op := Op.buildSlice 25 1 #[(0, Operand.tmp 20)], type := 25, pos := "reader.go:87", after := #[{ on := 12, ground := Ground.data }], guard := none }) rfl (fun K hK => ?_) (by exact AllReadyH.nil)
    rw [if_pos (by rfl)]
    refine wp_bslice_run 25 1 _ rfl #[(0, .agg (rlC (lowA (valL T), e0, l)))] (by simp only [List.map_toArray, List.map_cons, List.map_nil]; rfl) hbs ?_
    refine hK.out _ _ (by (try dsimp only); (try trivial)) (fun hHeld => ?_)
    clear hK K
    simp only [List.setIfInBounds_toArray, List.set_cons_zero, List.set_cons_succ]
    refine wpAnyH_ready (rs := [14]) (by as_aux_lemma => kernel_rfl) (by simp) ?_
    refine AllReadyH.cons (o := { dst := some 22, op := Op.call { callee := Callee.builtin Builtin.append, args := #[Operand.tmp 13, Operand.tmp 21], argTypes := #[25, 25] }, type := 25, pos := "reader.go:87", after := #[{ on := 5, ground := Ground.data }, { on := 13, ground := Ground.data }, { on := 11, ground := Ground.chain }], guard := none }) rfl (fun K hK => ?_) (by exact AllReadyH.nil)
    rw [if_pos (by rfl)]
    refine wp_app_run (.tmp 13) (.tmp 21) 25 rfl rfl rfl hap ?_
    refine hK.out _ _ (by (try dsimp only); (try trivial)) (fun hHeld => ?_)
    clear hK K
    simp only [List.setIfInBounds_toArray, List.set_cons_zero, List.set_cons_succ]
    refine wpAnyH_take (i := 15) (oi := { dst := some 23, op := Op.nilCheck (Operand.tmp 8), type := 0, pos := "reader.go:87", after := #[{ on := 0, ground := Ground.data }, { on := 0, ground := Ground.phase }, { on := 1, ground := Ground.phase }, { on := 2, ground := Ground.phase }, { on := 3, ground := Ground.phase }, { on := 4, ground := Ground.phase }, { on := 5, ground := Ground.phase }, { on := 6, ground := Ground.phase }, { on := 7, ground := Ground.phase }, { on := 8, ground := Ground.phase }, { on := 9, ground := Ground.phase }, { on := 10, ground := Ground.phase }, { on := 11, ground := Ground.phase }, { on := 12, ground := Ground.phase }, { on := 13, ground := Ground.phase }, { on := 14, ground := Ground.phase }], guard := none }) (v := ?vq26) rfl (by as_aux_lemma => kernel_rfl) (by as_aux_lemma => kernel_rfl) (by as_aux_lemma => kernel_rfl) (fun _ _ _ h => h) (Or.inl ⟨by rfl, ?yq26⟩) (by assumption) ?rq26
    case yq26 => (intro w hSw; (try dsimp only at hSw); go_simp <;> with_reducible rfl)
    simp only [Act.put, List.setIfInBounds_toArray, List.set_cons_zero, List.set_cons_succ]
    refine wpAnyH_take (i := 16) (oi := { dst := some 24, op := Op.fieldAddr 141 (Operand.tmp 23) 2, type := 0, pos := "reader.go:87", after := #[{ on := 15, ground := Ground.data }, { on := 0, ground := Ground.phase }, { on := 1, ground := Ground.phase }, { on := 2, ground := Ground.phase }, { on := 3, ground := Ground.phase }, { on := 4, ground := Ground.phase }, { on := 5, ground := Ground.phase }, { on := 6, ground := Ground.phase }, { on := 7, ground := Ground.phase }, { on := 8, ground := Ground.phase }, { on := 9, ground := Ground.phase }, { on := 10, ground := Ground.phase }, { on := 11, ground := Ground.phase }, { on := 12, ground := Ground.phase }, { on := 13, ground := Ground.phase }, { on := 14, ground := Ground.phase }], guard := none }) (v := ?vq27) rfl (by as_aux_lemma => kernel_rfl) (by as_aux_lemma => kernel_rfl) (by as_aux_lemma => kernel_rfl) (fun _ _ _ h => h) (Or.inl ⟨by rfl, ?yq27⟩) (by assumption) ?rq27
    case yq27 => (intro w hSw; (try dsimp only at hSw); go_simp <;> with_reducible rfl)
    simp only [Act.put, List.setIfInBounds_toArray, List.set_cons_zero, List.set_cons_succ]
    refine wpAnyH_take (i := 17) (oi := { dst := some 25, op := Op.fieldAddr 27 (Operand.tmp 24) 2, type := 0, pos := "reader.go:87", after := #[{ on := 16, ground := Ground.data }, { on := 0, ground := Ground.phase }, { on := 1, ground := Ground.phase }, { on := 2, ground := Ground.phase }, { on := 3, ground := Ground.phase }, { on := 4, ground := Ground.phase }, { on := 5, ground := Ground.phase }, { on := 6, ground := Ground.phase }, { on := 7, ground := Ground.phase }, { on := 8, ground := Ground.phase }, { on := 9, ground := Ground.phase }, { on := 10, ground := Ground.phase }, { on := 11, ground := Ground.phase }, { on := 12, ground := Ground.phase }, { on := 13, ground := Ground.phase }, { on := 14, ground := Ground.phase }], guard := none }) (v := ?vq28) rfl (by as_aux_lemma => kernel_rfl) (by as_aux_lemma => kernel_rfl) (by as_aux_lemma => kernel_rfl) (fun _ _ _ h => h) (Or.inl ⟨by rfl, ?yq28⟩) (by assumption) ?rq28
    case yq28 => (intro w hSw; (try dsimp only at hSw); go_simp <;> with_reducible rfl)
    simp only [Act.put, List.setIfInBounds_toArray, List.set_cons_zero, List.set_cons_succ]
    refine wpAnyH_ready (rs := [18]) (by as_aux_lemma => kernel_rfl) (by simp) ?_
    refine AllReadyH.cons (o := { dst := none, op := Op.store 25 (Operand.tmp 25) (Operand.tmp 22), type := 0, pos := "reader.go:87", after := #[{ on := 17, ground := Ground.data }, { on := 14, ground := Ground.data }, { on := 14, ground := Ground.chain }, { on := 0, ground := Ground.phase }, { on := 1, ground := Ground.phase }, { on := 2, ground := Ground.phase }, { on := 3, ground := Ground.phase }, { on := 4, ground := Ground.phase }, { on := 5, ground := Ground.phase }, { on := 6, ground := Ground.phase }, { on := 7, ground := Ground.phase }, { on := 8, ground := Ground.phase }, { on := 9, ground := Ground.phase }, { on := 10, ground := Ground.phase }, { on := 11, ground := Ground.phase }, { on := 12, ground := Ground.phase }, { on := 13, ground := Ground.phase }, { on := 14, ground := Ground.phase }], guard := none }) rfl (fun K hK => ?_) (by exact AllReadyH.nil)
    rw [if_pos (by rfl)]
    go_simp
    refine hK.out _ _ (by (try dsimp only); (try trivial)) (fun hHeld => ?_)
    clear hK K
    simp only [List.setIfInBounds_toArray, List.set_cons_zero, List.set_cons_succ]
    refine wpAnyH_done (by as_aux_lemma => kernel_rfl) ?_ _
    clear hHeld
    go_wp2_with fail
    go_end0
    obtain ⟨v4, vc', g1, g2, g3, g4, g5, g6⟩ := HF.out
    have hs : WD.heap.size = w.heap.size := by rw [← HD.out.2]; rfl
    exact ⟨rfl, v4, vc', g1, g2, g3, g4.imp id (fun ⟨g, h1, h2⟩ => ⟨g, h1, by omega⟩), (show Below n₀ w WD by rw [← HD.out.2]; exact ⟨rfl, rfl, rfl, Nat.le_refl _, fun _ _ => rfl⟩).trans g5, (KeptM.grown HD.out.1 (fun _ e => by cases e)).trans g6⟩
  refine AllReadyH.cons (o := { dst := some 17, op := Op.call { callee := Callee.value (Operand.func 143), args := #[Operand.tmp 16], argTypes := #[147] }, type := 30, pos := "reader.go:87", after := #[{ on := 8, ground := Ground.data }, { on := 7, ground := Ground.chain }], guard := none }) rfl (fun K hK => ?_) (by exact AllReadyH.nil)
  rw [if_pos (by rfl)]
  go_simp
  have HL0 := Lib.hid (entry_ok R b (k + 1) e0 cs ue v1 num df vl vc w1 H1.out.1 H1.out.2.1 HK.out.2.1 HK.out.2.2.2.2.2.2.2.2.1 HK.out.2.2.2.2.2.2.2.2.2.1 HK.out.2.2.2.2.2.2.2.2.2.2.1 HK.out.2.2.2.2.2.2.2.2.2.2.2)
  refine (HL0.out).mono ?_
  rintro e w2 ⟨rfl, v2, hR2, hb2, hg2⟩
  have cB : w2.cell? ⟨R, 4, none⟩ = some vc := cell_of_row w2 R 4 _ _ _ hR2
  have H2 := Lib.hid (And.intro hR2 (And.intro hb2 (grown_both H1.out.2.2 hg2)))
  clear hR2 hb2 hg2 HL0
  refine hK.out _ _ (by (try dsimp only); (try trivial)) (fun hHeld => ?_)
  clear hK K
  simp only [List.setIfInBounds_toArray, List.set_cons_zero, List.set_cons_succ]
  refine wpAnyH_ready (rs := [5, 11]) (by as_aux_lemma => kernel_rfl) (by simp) ?_
  refine AllReadyH.cons (o := { dst := some 13, op := Op.load 25 (Operand.tmp 12), type := 25, pos := "reader.go:87", after := #[{ on := 4, ground := Ground.data }], guard := none }) rfl (fun K hK => ?_) ?_
  · rw [if_pos (by rfl)]
    go_simp
    refine hK.out _ _ (by (try dsimp only); (try trivial)) (fun hHeld => ?_)
    clear hK K
    simp only [List.setIfInBounds_toArray, List.set_cons_zero, List.set_cons_succ]
    refine wpAnyH_ready (rs := [11]) (by as_aux_lemma => kernel_rfl) (by simp) ?_
    refine AllReadyH.cons (o := { dst := some 19, op := Op.call { callee := Callee.value (Operand.func 141), args := #[Operand.tmp 18], argTypes := #[147] }, type := 23, pos := "reader.go:87", after := #[{ on := 10, ground := Ground.data }, { on := 9, ground := Ground.chain }], guard := none }) rfl (fun K hK => ?_) (by exact AllReadyH.nil)
    rw [if_pos (by rfl)]
    go_simp
    have HL := Lib.hid (label_ok R b (k + 2) cs u v2 num df vl vc w2 H2.out.1 H2.out.2.1 HK.out.2.2.2.2.2.2.2.1 HK.out.2.2.2.2.1 (fun X hX => H0.out.2.2.2 X (grown_both H2.out.2.2 hX)) HK.out.2.2.2.2.2.1)
    rw [HK.out.2.2.2.2.2.2.1] at HL
    refine (HL.out).mono ?_
    rintro e w3 ⟨rfl, v3, hR3, hb3, hg3⟩
    obtain ⟨gn, cn, w5, hap, cC, c5, f5, hfin⟩ := release_end R b (k + 3) e0 l n₀ cs T v3 num df vl vc ls WD w2 w3 hR3 hb3 H2.out.2.2 hg3 H0.out.2.2.1 HN.out
    have cD : w3.cell? ⟨R, 4, none⟩ = some vc := cell_of_row w3 R 4 _ _ _ hR3
    have hbs := slice_release (lowA_ad (valL T)) e0 l w3
    have HF := Lib.hid hfin
    obtain ⟨NL, hNL⟩ : ∃ NL, ls.length + 1 = NL := ⟨_, rfl⟩
    rw [hNL] at hap HF
    clear hR3 hb3 hg3 hfin HL hNL
    refine hK.out _ _ (by (try dsimp only); (try trivial)) (fun hHeld => ?_)
    clear hK K
    simp only [List.setIfInBounds_toArray, List.set_cons_zero, List.set_cons_succ]
    refine wpAnyH_take (i := 12) (oi := { dst := some 20, op := Op.build 74 #[(0, Operand.tmp 15), (1, Operand.tmp 17), (2, Operand.tmp 19)], type := 74, pos := "reader.go:87", after := #[{ on := 7, ground := Ground.data }, { on := 9, ground := Ground.data }, { on := 11, ground := Ground.data }], guard := none }) (v := .agg (rlC (lowA (valL T), e0, l))) rfl (by as_aux_lemma => kernel_rfl) (by as_aux_lemma => kernel_rfl) (by as_aux_lemma => kernel_rfl) (fun _ _ _ h => h) (yieldsIf_build (by rfl) 74 _ rfl #[(0, .agg (adC (lowA (valL T)))), (1, .int .u32 (e0 : Nat)), (2, .int .u64 (l : Nat))] (by simp only [List.map_toArray, List.map_cons, List.map_nil]; rfl) _ hbld) (by assumption) ?_
    simp only [Act.put, List.setIfInBounds_toArray, List.set_cons_zero, List.set_cons_succ]
    refine wpAnyH_ready (rs := [13]) (by as_aux_lemma => kernel_rfl) (by simp) ?_
    refine AllReadyH.cons (o := { dst := some 21, op := Op.buildSlice 25 1 #[(0, Operand.tmp 20)], type := 25, pos := "reader.go:87", after := #[{ on := 12, ground := Ground.data }], guard := none }) rfl (fun K hK => ?_) (by exact AllReadyH.nil)
    rw [if_pos (by rfl)]
    refine wp_bslice_run 25 1 _ rfl #[(0, .agg (rlC (lowA (valL T), e0, l)))] (by simp only [List.map_toArray, List.map_cons, List.map_nil]; rfl) hbs ?_
    refine hK.out _ _ (by (try dsimp only); (try trivial)) (fun hHeld => ?_)
    clear hK K
    simp only [List.setIfInBounds_toArray, List.set_cons_zero, List.set_cons_succ]
    refine wpAnyH_ready (rs := [14]) (by as_aux_lemma => kernel_rfl) (by simp) ?_
    refine AllReadyH.cons (o := { dst := some 22, op := Op.call { callee := Callee.builtin Builtin.append, args := #[Operand.tmp 13, Operand.tmp 21], argTypes := #[25, 25] }, type := 25, pos := "reader.go:87", after := #[{ on := 5, ground := Ground.data }, { on := 13, ground := Ground.data }, { on := 11, ground := Ground.chain }], guard := none }) rfl (fun K hK => ?_) (by exact AllReadyH.nil)
    rw [if_pos (by rfl)]
    refine wp_app_run (.tmp 13) (.tmp 21) 25 rfl rfl rfl hap ?_
    refine hK.out _ _ (by (try dsimp only); (try trivial)) (fun hHeld => ?_)
    clear hK K
    simp only [List.setIfInBounds_toArray, List.set_cons_zero, List.set_cons_succ]
    refine wpAnyH_take (i := 15) (oi := { dst := some 23, op := Op.nilCheck (Operand.tmp 8), type := 0, pos := "reader.go:87", after := #[{ on := 0, ground := Ground.data }, { on := 0, ground := Ground.phase }, { on := 1, ground := Ground.phase }, { on := 2, ground := Ground.phase }, { on := 3, ground := Ground.phase }, { on := 4, ground := Ground.phase }, { on := 5, ground := Ground.phase }, { on := 6, ground := Ground.phase }, { on := 7, ground := Ground.phase }, { on := 8, ground := Ground.phase }, { on := 9, ground := Ground.phase }, { on := 10, ground := Ground.phase }, { on := 11, ground := Ground.phase }, { on := 12, ground := Ground.phase }, { on := 13, ground := Ground.phase }, { on := 14, ground := Ground.phase }], guard := none }) (v := ?vq36) rfl (by as_aux_lemma => kernel_rfl) (by as_aux_lemma => kernel_rfl) (by as_aux_lemma => kernel_rfl) (fun _ _ _ h => h) (Or.inl ⟨by rfl, ?yq36⟩) (by assumption) ?rq36
    case yq36 => (intro w hSw; (try dsimp only at hSw); go_simp <;> with_reducible rfl)
    simp only [Act.put, List.setIfInBounds_toArray, List.set_cons_zero, List.set_cons_succ]
    refine wpAnyH_take (i := 16) (oi := { dst := some 24, op := Op.fieldAddr 141 (Operand.tmp 23) 2, type := 0, pos := "reader.go:87", after := #[{ on := 15, ground := Ground.data }, { on := 0, ground := Ground.phase }, { on := 1, ground := Ground.phase }, { on := 2, ground := Ground.phase }, { on := 3, ground := Ground.phase }, { on := 4, ground := Ground.phase }, { on := 5, ground := Ground.phase }, { on := 6, ground := Ground.phase }, { on := 7, ground := Ground.phase }, { on := 8, ground := Ground.phase }, { on := 9, ground := Ground.phase }, { on := 10, ground := Ground.phase }, { on := 11, ground := Ground.phase }, { on := 12, ground := Ground.phase }, { on := 13, ground := Ground.phase }, { on := 14, ground := Ground.phase }], guard := none }) (v := ?vq37) rfl (by as_aux_lemma => kernel_rfl) (by as_aux_lemma => kernel_rfl) (by as_aux_lemma => kernel_rfl) (fun _ _ _ h => h) (Or.inl ⟨by rfl, ?yq37⟩) (by assumption) ?rq37
    case yq37 => (intro w hSw; (try dsimp only at hSw); go_simp <;> with_reducible rfl)
    simp only [Act.put, List.setIfInBounds_toArray, List.set_cons_zero, List.set_cons_succ]
    refine wpAnyH_take (i := 17) (oi := { dst := some 25, op := Op.fieldAddr 27 (Operand.tmp 24) 2, type := 0, pos := "reader.go:87", after := #[{ on := 16, ground := Ground.data }, { on := 0, ground := Ground.phase }, { on := 1, ground := Ground.phase }, { on := 2, ground := Ground.phase }, { on := 3, ground := Ground.phase }, { on := 4, ground := Ground.phase }, { on := 5, ground := Ground.phase }, { on := 6, ground := Ground.phase }, { on := 7, ground := Ground.phase }, { on := 8, ground := Ground.phase }, { on := 9, ground := Ground.phase }, { on := 10, ground := Ground.phase }, { on := 11, ground := Ground.phase }, { on := 12, ground := Ground.phase }, { on := 13, ground := Ground.phase }, { on := 14, ground := Ground.phase }], guard := none }) (v := ?vq38) rfl (by as_aux_lemma => kernel_rfl) (by as_aux_lemma => kernel_rfl) (by as_aux_lemma => kernel_rfl) (fun _ _ _ h => h) (Or.inl ⟨by rfl, ?yq38⟩) (by assumption) ?rq38
    case yq38 => (intro w hSw; (try dsimp only at hSw); go_simp <;> with_reducible rfl)
    simp only [Act.put, List.setIfInBounds_toArray, List.set_cons_zero, List.set_cons_succ]
    refine wpAnyH_ready (rs := [18]) (by as_aux_lemma => kernel_rfl) (by simp) ?_
    refine AllReadyH.cons (o := { dst := none, op := Op.store 25 (Operand.tmp 25) (Operand.tmp 22), type := 0, pos := "reader.go:87", after := #[{ on := 17, ground := Ground.data }, { on := 14, ground := Ground.data }, { on := 14, ground := Ground.chain }, { on := 0, ground := Ground.phase }, { on := 1, ground := Ground.phase }, { on := 2, ground := Ground.phase }, { on := 3, ground := Ground.phase }, { on := 4, ground := Ground.phase }, { on := 5, ground := Ground.phase }, { on := 6, ground := Ground.phase }, { on := 7, ground := Ground.phase }, { on := 8, ground := Ground.phase }, { on := 9, ground := Ground.phase }, { on := 10, ground := Ground.phase }, { on := 11, ground := Ground.phase }, { on := 12, ground := Ground.phase }, { on := 13, ground := Ground.phase }, { on := 14, ground := Ground.phase }], guard := none }) rfl (fun K hK => ?_) (by exact AllReadyH.nil)
    rw [if_pos (by rfl)]
    go_simp
    refine hK.out _ _ (by (try dsimp only); (try trivial)) (fun hHeld => ?_)
    clear hK K
    simp only [List.setIfInBounds_toArray, List.set_cons_zero, List.set_cons_succ]
    refine wpAnyH_done (by as_aux_lemma => kernel_rfl) ?_ _
    clear hHeld
    go_wp2_with fail
    go_end0
    obtain ⟨v4, vc', g1, g2, g3, g4, g5, g6⟩ := HF.out
    have hs : WD.heap.size = w.heap.size := by rw [← HD.out.2]; rfl
    exact ⟨rfl, v4, vc', g1, g2, g3, g4.imp id (fun ⟨g, h1, h2⟩ => ⟨g, h1, by omega⟩), (show Below n₀ w WD by rw [← HD.out.2]; exact ⟨rfl, rfl, rfl, Nat.le_refl _, fun _ _ => rfl⟩).trans g5, (KeptM.grown HD.out.1 (fun _ e => by cases e)).trans g6⟩
  refine AllReadyH.cons (o := { dst := some 19, op := Op.call { callee := Callee.value (Operand.func 141), args := #[Operand.tmp 18], argTypes := #[147] }, type := 23, pos := "reader.go:87", after := #[{ on := 10, ground := Ground.data }, { on := 9, ground := Ground.chain }], guard := none }) rfl (fun K hK => ?_) (by exact AllReadyH.nil)
  rw [if_pos (by rfl)]
  go_simp
  have HL := Lib.hid (label_ok R b (k + 2) cs u v2 num df vl vc w2 H2.out.1 H2.out.2.1 HK.out.2.2.2.2.2.2.2.1 HK.out.2.2.2.2.1 (fun X hX => H0.out.2.2.2 X (grown_both H2.out.2.2 hX)) HK.out.2.2.2.2.2.1)
  rw [HK.out.2.2.2.2.2.2.1] at HL
  refine (HL.out).mono ?_
  rintro e w3 ⟨rfl, v3, hR3, hb3, hg3⟩
  obtain ⟨gn, cn, w5, hap, cC, c5, f5, hfin⟩ := release_end R b (k + 3) e0 l n₀ cs T v3 num df vl vc ls WD w2 w3 hR3 hb3 H2.out.2.2 hg3 H0.out.2.2.1 HN.out
  have cD : w3.cell? ⟨R, 4, none⟩ = some vc := cell_of_row w3 R 4 _ _ _ hR3
  have hbs := slice_release (lowA_ad (valL T)) e0 l w3
  have HF := Lib.hid hfin
  obtain ⟨NL, hNL⟩ : ∃ NL, ls.length + 1 = NL := ⟨_, rfl⟩
  rw [hNL] at hap HF
  clear hR3 hb3 hg3 hfin HL hNL
  refine hK.out _ _ (by (try dsimp only); (try trivial)) (fun hHeld => ?_)
  clear hK K
  simp only [List.setIfInBounds_toArray, List.set_cons_zero, List.set_cons_succ]
  refine wpAnyH_take (i := 12) (oi := { dst := some 20, op := Op.build 74 #[(0, Operand.tmp 15), (1, Operand.tmp 17), (2, Operand.tmp 19)], type := 74, pos := "reader.go:87", after := #[{ on := 7, ground := Ground.data }, { on := 9, ground := Ground.data }, { on := 11, ground := Ground.data }], guard := none }) (v := .agg (rlC (lowA (valL T), e0, l))) rfl (by as_aux_lemma => kernel_rfl) (by as_aux_lemma => kernel_rfl) (by as_aux_lemma => kernel_rfl) (fun _ _ _ h => h) (yieldsIf_build (by rfl) 74 _ rfl #[(0, .agg (adC (lowA (valL T)))), (1, .int .u32 (e0 : Nat)), (2, .int .u64 (l : Nat))] (by simp only [List.map_toArray, List.map_cons, List.map_nil]; rfl) _ hbld) (by assumption) ?_
  simp only [Act.put, List.setIfInBounds_toArray, List.set_cons_zero, List.set_cons_succ]
  refine wpAnyH_ready (rs := [5, 13]) (by as_aux_lemma => kernel_rfl) (by simp) ?_
  refine AllReadyH.cons (o := { dst := some 13, op := Op.load 25 (Operand.tmp 12), type := 25, pos := "reader.go:87", after := #[{ on := 4, ground := Ground.data }], guard := none }) rfl (fun K hK => ?_) ?_
  · rw [if_pos (by rfl)]
    go_simp
    refine hK.out _ _ (by (try dsimp only); (try trivial)) (fun hHeld => ?_)
    clear hK K
    simp only [List.setIfInBounds_toArray, List.set_cons_zero, List.set_cons_succ]
    refine wpAnyH_ready (rs := [13]) (by as_aux_lemma => kernel_rfl) (by simp) ?_
    refine AllReadyH.cons (o := { dst := some 21, op := Op.buildSlice 25 1 #[(0, Operand.tmp 20)], type := 25, pos := "reader.go:87", after := #[{ on := 12, ground := Ground.data }], guard := none }) rfl (fun K hK => ?_) (by exact AllReadyH.nil)
    rw [if_pos (by rfl)]
    refine wp_bslice_run 25 1 _ rfl #[(0, .agg (rlC (lowA (valL T), e0, l)))] (by simp only [List.map_toArray, List.map_cons, List.map_nil]; rfl) hbs ?_
    refine hK.out _ _ (by (try dsimp only); (try trivial)) (fun hHeld => ?_)
    clear hK K
    simp only [List.setIfInBounds_toArray, List.set_cons_zero, List.set_cons_succ]
    refine wpAnyH_ready (rs := [14]) (by as_aux_lemma => kernel_rfl) (by simp) ?_
    refine AllReadyH.cons (o := { dst := some 22, op := Op.call { callee := Callee.builtin Builtin.append, args := #[Operand.tmp 13, Operand.tmp 21], argTypes := #[25, 25] }, type := 25, pos := "reader.go:87", after := #[{ on := 5, ground := Ground.data }, { on := 13, ground := Ground.data }, { on := 11, ground := Ground.chain }], guard := none }) rfl (fun K hK => ?_) (by exact AllReadyH.nil)
    rw [if_pos (by rfl)]
    refine wp_app_run (.tmp 13) (.tmp 21) 25 rfl rfl rfl hap ?_
    refine hK.out _ _ (by (try dsimp only); (try trivial)) (fun hHeld => ?_)
    clear hK K
    simp only [List.setIfInBounds_toArray, List.set_cons_zero, List.set_cons_succ]
    refine wpAnyH_take (i := 15) (oi := { dst := some 23, op := Op.nilCheck (Operand.tmp 8), type := 0, pos := "reader.go:87", after := #[{ on := 0, ground := Ground.data }, { on := 0, ground := Ground.phase }, { on := 1, ground := Ground.phase }, { on := 2, ground := Ground.phase }, { on := 3, ground := Ground.phase }, { on := 4, ground := Ground.phase }, { on := 5, ground := Ground.phase }, { on := 6, ground := Ground.phase }, { on := 7, ground := Ground.phase }, { on := 8, ground := Ground.phase }, { on := 9, ground := Ground.phase }, { on := 10, ground := Ground.phase }, { on := 11, ground := Ground.phase }, { on := 12, ground := Ground.phase }, { on := 13, ground := Ground.phase }, { on := 14, ground := Ground.phase }], guard := none }) (v := ?vq45) rfl (by as_aux_lemma => kernel_rfl) (by as_aux_lemma => kernel_rfl) (by as_aux_lemma => kernel_rfl) (fun _ _ _ h => h) (Or.inl ⟨by rfl, ?yq45⟩) (by assumption) ?rq45
    case yq45 => (intro w hSw; (try dsimp only at hSw); go_simp <;> with_reducible rfl)
    simp only [Act.put, List.setIfInBounds_toArray, List.set_cons_zero, List.set_cons_succ]
    refine wpAnyH_take (i := 16) (oi := { dst := some 24, op := Op.fieldAddr 141 (Operand.tmp 23) 2, type := 0, pos := "reader.go:87", after := #[{ on := 15, ground := Ground.data }, { on := 0, ground := Ground.phase }, { on := 1, ground := Ground.phase }, { on := 2, ground := Ground.phase }, { on := 3, ground := Ground.phase }, { on := 4, ground := Ground.phase }, { on := 5, ground := Ground.phase }, { on := 6, ground := Ground.phase }, { on := 7, ground := Ground.phase }, { on := 8, ground := Ground.phase }, { on := 9, ground := Ground.phase }, { on := 10, ground := Ground.phase }, { on := 11, ground := Ground.phase }, { on := 12, ground := Ground.phase }, { on := 13, ground := Ground.phase }, { on := 14, ground := Ground.phase }], guard := none }) (v := ?vq46) rfl (by as_aux_lemma => kernel_rfl) (by as_aux_lemma => kernel_rfl) (by as_aux_lemma => kernel_rfl) (fun _ _ _ h => h) (Or.inl ⟨by rfl, ?yq46⟩) (by assumption) ?rq46
    case yq46 => (intro w hSw; (try dsimp only at hSw); go_simp <;> with_reducible rfl)
    simp only [Act.put, List.setIfInBounds_toArray, List.set_cons_zero, List.set_cons_succ]
    refine wpAnyH_take (i := 17) (oi := { dst := some 25, op := Op.fieldAddr 27 (Operand.tmp 24) 2, type := 0, pos := "reader.go:87", after := #[{ on := 16, ground := Ground.data }, { on := 0, ground := Ground.phase }, { on := 1, ground := Ground.phase }, { on := 2, ground := Ground.phase }, { on := 3, ground := Ground.phase }, { on := 4, ground := Ground.phase }, { on := 5, ground := Ground.phase }, { on := 6, ground := Ground.phase }, { on := 7, ground := Ground.phase }, { on := 8, ground := Ground.phase }, { on := 9, ground := Ground.phase }, { on := 10, ground := Ground.phase }, { on := 11, ground := Ground.phase }, { on := 12, ground := Ground.phase }, { on := 13, ground := Ground.phase }, { on := 14, ground := Ground.phase }], guard := none }) (v := ?vq47) rfl (by as_aux_lemma => kernel_rfl) (by as_aux_lemma => kernel_rfl) (by as_aux_lemma => kernel_rfl) (fun _ _ _ h => h) (Or.inl ⟨by rfl, ?yq47⟩) (by assumption) ?rq47
    case yq47 => (intro w hSw; (try dsimp only at hSw); go_simp <;> with_reducible rfl)
    simp only [Act.put, List.setIfInBounds_toArray, List.set_cons_zero, List.set_cons_succ]
    refine wpAnyH_ready (rs := [18]) (by as_aux_lemma => kernel_rfl) (by simp) ?_
    refine AllReadyH.cons (o := { dst := none, op := Op.store 25 (Operand.tmp 25) (Operand.tmp 22), type := 0, pos := "reader.go:87", after := #[{ on := 17, ground := Ground.data }, { on := 14, ground := Ground.data }, { on := 14, ground := Ground.chain }, { on := 0, ground := Ground.phase }, { on := 1, ground := Ground.phase }, { on := 2, ground := Ground.phase }, { on := 3, ground := Ground.phase }, { on := 4, ground := Ground.phase }, { on := 5, ground := Ground.phase }, { on := 6, ground := Ground.phase }, { on := 7, ground := Ground.phase }, { on := 8, ground := Ground.phase }, { on := 9, ground := Ground.phase }, { on := 10, ground := Ground.phase }, { on := 11, ground := Ground.phase }, { on := 12, ground := Ground.phase }, { on := 13, ground := Ground.phase }, { on := 14, ground := Ground.phase }], guard := none }) rfl (fun K hK => ?_) (by exact AllReadyH.nil)
    rw [if_pos (by rfl)]
    go_simp
    refine hK.out _ _ (by (try dsimp only); (try trivial)) (fun hHeld => ?_)
    clear hK K
    simp only [List.setIfInBounds_toArray, List.set_cons_zero, List.set_cons_succ]
    refine wpAnyH_done (by as_aux_lemma => kernel_rfl) ?_ _
    clear hHeld
    go_wp2_with fail
    go_end0
    obtain ⟨v4, vc', g1, g2, g3, g4, g5, g6⟩ := HF.out
    have hs : WD.heap.size = w.heap.size := by rw [← HD.out.2]; rfl
    exact ⟨rfl, v4, vc', g1, g2, g3, g4.imp id (fun ⟨g, h1, h2⟩ => ⟨g, h1, by omega⟩), (show Below n₀ w WD by rw [← HD.out.2]; exact ⟨rfl, rfl, rfl, Nat.le_refl _, fun _ _ => rfl⟩).trans g5, (KeptM.grown HD.out.1 (fun _ e => by cases e)).trans g6⟩
  refine AllReadyH.cons (o := { dst := some 21, op := Op.buildSlice 25 1 #[(0, Operand.tmp 20)], type := 25, pos := "reader.go:87", after := #[{ on := 12, ground := Ground.data }], guard := none }) rfl (fun K hK => ?_) (by exact AllReadyH.nil)
  rw [if_pos (by rfl)]
  refine wp_bslice_run 25 1 _ rfl #[(0, .agg (rlC (lowA (valL T), e0, l)))] (by simp only [List.map_toArray, List.map_cons, List.map_nil]; rfl) hbs ?_
  refine hK.out _ _ (by (try dsimp only); (try trivial)) (fun hHeld => ?_)
  clear hK K
  simp only [List.setIfInBounds_toArray, List.set_cons_zero, List.set_cons_succ]
  refine wpAnyH_ready (rs := [5]) (by as_aux_lemma => kernel_rfl) (by simp) ?_
  refine AllReadyH.cons (o := { dst := some 13, op := Op.load 25 (Operand.tmp 12), type := 25, pos := "reader.go:87", after := #[{ on := 4, ground := Ground.data }], guard := none }) rfl (fun K hK => ?_) (by exact AllReadyH.nil)
  rw [if_pos (by rfl)]
  go_simp
  refine hK.out _ _ (by (try dsimp only); (try trivial)) (fun hHeld => ?_)
  clear hK K
  simp only [List.setIfInBounds_toArray, List.set_cons_zero, List.set_cons_succ]
  refine wpAnyH_ready (rs := [14]) (by as_aux_lemma => kernel_rfl) (by simp) ?_
  refine AllReadyH.cons (o := { dst := some 22, op := Op.call { callee := Callee.builtin Builtin.append, args := #[Operand.tmp 13, Operand.tmp 21], argTypes := #[25, 25] }, type := 25, pos := "reader.go:87", after := #[{ on := 5, ground := Ground.data }, { on := 13, ground := Ground.data }, { on := 11, ground := Ground.chain }], guard := none }) rfl (fun K hK => ?_) (by exact AllReadyH.nil)
  rw [if_pos (by rfl)]
  refine wp_app_run (.tmp 13) (.tmp 21) 25 rfl rfl rfl hap ?_
  refine hK.out _ _ (by (try dsimp only); (try trivial)) (fun hHeld => ?_)
  clear hK K
  simp only [List.setIfInBounds_toArray, List.set_cons_zero, List.set_cons_succ]
  refine wpAnyH_take (i := 15) (oi := { dst := some 23, op := Op.nilCheck (Operand.tmp 8), type := 0, pos := "reader.go:87", after := #[{ on := 0, ground := Ground.data }, { on := 0, ground := Ground.phase }, { on := 1, ground := Ground.phase }, { on := 2, ground := Ground.phase }, { on := 3, ground := Ground.phase }, { on := 4, ground := Ground.phase }, { on := 5, ground := Ground.phase }, { on := 6, ground := Ground.phase }, { on := 7, ground := Ground.phase }, { on := 8, ground := Ground.phase }, { on := 9, ground := Ground.phase }, { on := 10, ground := Ground.phase }, { on := 11, ground := Ground.phase }, { on := 12, ground := Ground.phase }, { on := 13, ground := Ground.phase }, { on := 14, ground := Ground.phase }], guard := none }) (v := ?vq52) rfl (by as_aux_lemma => kernel_rfl) (by as_aux_lemma => kernel_rfl) (by as_aux_lemma => kernel_rfl) (fun _ _ _ h => h) (Or.inl ⟨by rfl, ?yq52⟩) (by assumption) ?rq52
  case yq52 => (intro w hSw; (try dsimp only at hSw); go_simp <;> with_reducible rfl)
  simp only [Act.put, List.setIfInBounds_toArray, List.set_cons_zero, List.set_cons_succ]
  refine wpAnyH_take (i := 16) (oi := { dst := some 24, op := Op.fieldAddr 141 (Operand.tmp 23) 2, type := 0, pos := "reader.go:87", after := #[{ on := 15, ground := Ground.data }, { on := 0, ground := Ground.phase }, { on := 1, ground := Ground.phase }, { on := 2, ground := Ground.phase }, { on := 3, ground := Ground.phase }, { on := 4, ground := Ground.phase }, { on := 5, ground := Ground.phase }, { on := 6, ground := Ground.phase }, { on := 7, ground := Ground.phase }, { on := 8, ground := Ground.phase }, { on := 9, ground := Ground.phase }, { on := 10, ground := Ground.phase }, { on := 11, ground := Ground.phase }, { on := 12, ground := Ground.phase }, { on := 13, ground := Ground.phase }, { on := 14, ground := Ground.phase }], guard := none }) (v := ?vq53) rfl (by as_aux_lemma => kernel_rfl) (by as_aux_lemma => kernel_rfl) (by as_aux_lemma => kernel_rfl) (fun _ _ _ h => h) (Or.inl ⟨by rfl, ?yq53⟩) (by assumption) ?rq53
  case yq53 => (intro w hSw; (try dsimp only at hSw); go_simp <;> with_reducible rfl)
  simp only [Act.put, List.setIfInBounds_toArray, List.set_cons_zero, List.set_cons_succ]
  refine wpAnyH_take (i := 17) (oi := { dst := some 25, op := Op.fieldAddr 27 (Operand.tmp 24) 2, type := 0, pos := "reader.go:87", after := #[{ on := 16, ground := Ground.data }, { on := 0, ground := Ground.phase }, { on := 1, ground := Ground.phase }, { on := 2, ground := Ground.phase }, { on := 3, ground := Ground.phase }, { on := 4, ground := Ground.phase }, { on := 5, ground := Ground.phase }, { on := 6, ground := Ground.phase }, { on := 7, ground := Ground.phase }, { on := 8, ground := Ground.phase }, { on := 9, ground := Ground.phase }, { on := 10, ground := Ground.phase }, { on := 11, ground := Ground.phase }, { on := 12, ground := Ground.phase }, { on := 13, ground := Ground.phase }, { on := 14, ground := Ground.phase }], guard := none }) (v := ?vq54) rfl (by as_aux_lemma => kernel_rfl) (by as_aux_lemma => kernel_rfl) (by as_aux_lemma => kernel_rfl) (fun _ _ _ h => h) (Or.inl ⟨by rfl, ?yq54⟩) (by assumption) ?rq54
  case yq54 => (intro w hSw; (try dsimp only at hSw); go_simp <;> with_reducible rfl)
  simp only [Act.put, List.setIfInBounds_toArray, List.set_cons_zero, List.set_cons_succ]
  refine wpAnyH_ready (rs := [18]) (by as_aux_lemma => kernel_rfl) (by simp) ?_
  refine AllReadyH.cons (o := { dst := none, op := Op.store 25 (Operand.tmp 25) (Operand.tmp 22), type := 0, pos := "reader.go:87", after := #[{ on := 17, ground := Ground.data }, { on := 14, ground := Ground.data }, { on := 14, ground := Ground.chain }, { on := 0, ground := Ground.phase }, { on := 1, ground := Ground.phase }, { on := 2, ground := Ground.phase }, { on := 3, ground := Ground.phase }, { on := 4, ground := Ground.phase }, { on := 5, ground := Ground.phase }, { on := 6, ground := Ground.phase }, { on := 7, ground := Ground.phase }, { on := 8, ground := Ground.phase }, { on := 9, ground := Ground.phase }, { on := 10, ground := Ground.phase }, { on := 11, ground := Ground.phase }, { on := 12, ground := Ground.phase }, { on := 13, ground := Ground.phase }, { on := 14, ground := Ground.phase }], guard := none }) rfl (fun K hK => ?_) (by exact AllReadyH.nil)
  rw [if_pos (by rfl)]
  go_simp
  refine hK.out _ _ (by (try dsimp only); (try trivial)) (fun hHeld => ?_)
  clear hK K
  simp only [List.setIfInBounds_toArray, List.set_cons_zero, List.set_cons_succ]
  refine wpAnyH_done (by as_aux_lemma => kernel_rfl) ?_ _
  clear hHeld
  go_wp2_with fail
  go_end0
  obtain ⟨v4, vc', g1, g2, g3, g4, g5, g6⟩ := HF.out
  have hs : WD.heap.size = w.heap.size := by rw [← HD.out.2]; rfl
  exact ⟨rfl, v4, vc', g1, g2, g3, g4.imp id (fun ⟨g, h1, h2⟩ => ⟨g, h1, by omega⟩), (show Below n₀ w WD by rw [← HD.out.2]; exact ⟨rfl, rfl, rfl, Nat.le_refl _, fun _ _ => rfl⟩).trans g5, (KeptM.grown HD.out.1 (fun _ e => by cases e)).trans g6⟩
end Go.Proofs.YtenepkgjdoddgaaGreatDoor

/- policy's laws: the reader's first line; the map of ways. -/
namespace Go.Proofs.YtenepkgjdoddgaaGreatDoor
open Go.RowKit Go.Shelf

set_option maxRecDepth 100000 in
set_option maxHeartbeats 2000000 in
theorem default_ok (R b k l : Nat) (cs : List ByteArray) (u : ByteArray) (v : Value) (df : Int) (vc vr : Value) (w : World) (hR : Rd w R v 0 df vc vr) (hb : Wd w b cs k v)
    (hk : cs[k]? = some u) (hu : u.size ≤ 400) (he : labE u.data.toList = 0) (hlab : labV u.data.toList = l) (hTS : ∀ w', w.grownBy w' (some R) → TZ w') :
    Calls Tryz.prog 119 #[.pointer (some ⟨R, 0, none⟩)] w fun e w' => e = .returned (.tuple #[]) ∧ ∃ v', Rd w' R v' 0 (l : Nat) vc vr ∧ Wd w' b cs (k + 1) v' ∧ w.grownBy w' (some R) := by
  have c1 : w.cell? ⟨R, 1, none⟩ = some (.int .i64 0) := cell_of_row w R 1 _ _ _ hR
  have HL := Lib.hid (label_ok R b k cs u v 0 df vc vr w hR hb hk hu hTS he)
  rw [hlab] at HL
  clear hR hb hk hu he hlab hTS
  go_enter Tryz.func119, Tryz.ntmps119
  go_wp2_with (first
    | (go_at_call 92; refine (need_b _ rfl _).mono ?_; rintro e w' ⟨rfl, rfl⟩)
    | (go_at_call 141; refine (HL.out).mono ?_; rintro e w1 ⟨rfl, v', hR, hb, hg⟩; have c2 : w1.cell? ⟨R, 2, none⟩ = some (.int .u64 df) := cell_of_row w1 R 2 _ _ _ hR; have f2 := frozen_of_row w1 R 2 _ _ hR; have H1 := Lib.hid (And.intro hR (And.intro hb hg)); clear hR hb hg)
    | fail)
  go_end0
  obtain ⟨hR, hb, hg⟩ := H1.out
  have hG := grown_set' (grown_refl w1 R) 2 (.int .u64 (l : Nat))
  exact ⟨rfl, v', heap_setCell_same w1 R 2 _ _ _ hR, Wd.kept hb hG (fun e => (hR.ne hb) (Option.some.inj e).symm), grown_both hg hG⟩

theorem undMW : Tryz.prog.underlying 142 = some (.map 9 146) := by kernel_rfl
theorem undKS : Tryz.prog.underlying 9 = some .string := by kernel_rfl
theorem mk_mapW (w : World) : (Instr.makeMap 142 none).run Tryz.prog w = .ok (.map (some w.heap.size)) (w.alloc (.map #[] 0)) := by kernel_rfl
theorem check_str (e : Bool) (s : ByteArray) (w : World) : (Instr.checkKey e 10000 9 (.string s)).run Tryz.prog w = .ok () w := by
  rw [show (10000 : Nat) = 9999 + 1 from rfl]
  unfold Instr.checkKey
  simp [run_underlying undKS]
theorem find_str (s : ByteArray) (es : List MapEntry) (r : Option (Nat × Value)) (h : Instr.findNow .string (.string s) es 0 = some r) (w : World) : (Instr.findKey 9 (.string s) es).run Tryz.prog w = .ok r w := by
  unfold Instr.findKey
  simp [run_underlying undKS, h]
theorem gob_mapW {P : Program} {w : World} {r : Nat} {es : Array MapEntry} {clock : Nat} (hb : w.heap[r]? = some (.map es clock)) : (getObj r).run P w = .ok (.map es clock) w := by simp [getObj, Sem.run, hb]
theorem sob_mapW {P : Program} {w : World} {r : Nat} {es : Array MapEntry} {clock : Nat} (o : Obj) (hb : w.heap[r]? = some (.map es clock)) : (setObj r o).run P w = .ok () (w.putObj r o) := by simp [setObj, Sem.run, hb, World.putObj]
theorem ins_str (b : Nat) (es : Array MapEntry) (c : Nat) (k : ByteArray) (f : Value) (w : World) (hb : w.heap[b]? = some (.map es c)) (hno : Instr.findNow .string (.string k) es.toList 0 = some none) :
    (Instr.mapUpdate 142 (.map (some b)) (.string k) f).run Tryz.prog w = .ok () (w.putObj b (.map (es.push { key := .string k, val := f, born := c }) (c + 1))) := by
  unfold Instr.mapUpdate
  simp [run_underlying undMW, gob_mapW hb, check_str, find_str k _ _ hno, sob_mapW _ hb]
theorem look_str (b : Nat) (es : Array MapEntry) (c : Nat) (k : ByteArray) (i : Nat) (v : Value) (w : World) (hb : w.heap[b]? = some (.map es c)) (hat : Instr.findNow .string (.string k) es.toList 0 = some (some (i, v))) :
    (Instr.lookup 142 (.map (some b)) (.string k) false).run Tryz.prog w = .ok v w := by
  unfold Instr.lookup
  simp [run_underlying undMW, gob_mapW hb, check_str, find_str k _ _ hat]
abbrev sDef : ByteArray := ⟨#[100, 101, 102, 97, 117, 108, 116]⟩
abbrev sClr : ByteArray := ⟨#[99, 108, 101, 97, 114]⟩
abbrev sRel : ByteArray := ⟨#[114, 101, 108, 101, 97, 115, 101]⟩
/-- The map of ways. -/
def wES : Array MapEntry := #[{ key := .string sDef, val := .func (.func 119) #[] #[], born := 0 }, { key := .string sClr, val := .func (.func 120) #[] #[], born := 1 }, { key := .string sRel, val := .func (.func 121) #[] #[], born := 2 }]
def WM (w : World) (b : Nat) : Prop := w.heap[b]? = some (.map wES 3)
theorem WM.kept {X Y : World} {b : Nat} {row : Option Nat} (h : WM X b) (hg : X.grownBy Y row) (hr : row ≠ some b) : WM Y b := (hg.block b (Array.getElem?_eq_some_iff.1 h).1 (fun e => hr e.symm)).trans h
theorem find_def : Instr.findNow .string (.string sDef) wES.toList 0 = some (some (0, .func (.func 119) #[] #[])) := by kernel_rfl
theorem find_clr : Instr.findNow .string (.string sClr) wES.toList 0 = some (some (1, .func (.func 120) #[] #[])) := by kernel_rfl
theorem find_rel : Instr.findNow .string (.string sRel) wES.toList 0 = some (some (2, .func (.func 121) #[] #[])) := by kernel_rfl
set_option maxRecDepth 100000 in
set_option maxHeartbeats 2000000 in
theorem ways_any (w : World) :
    Calls Tryz.prog 90 #[] w fun e w' => e = .returned (.map (some w.heap.size)) ∧ WM w' w.heap.size ∧ Below w.heap.size w w' := by
  have i0 := ins_str w.heap.size #[] 0 sDef (.func (.func 119) #[] #[]) (w.alloc (.map #[] 0)) (World.alloc_heap_new w _) rfl
  obtain ⟨w1, hw1⟩ : ∃ w1, (w.alloc (.map #[] 0)).putObj w.heap.size (.map (#[].push { key := .string sDef, val := .func (.func 119) #[] #[], born := 0 }) (0 + 1)) = w1 := ⟨_, rfl⟩
  have h1 : w1.heap[w.heap.size]? = some (.map (#[].push { key := .string sDef, val := .func (.func 119) #[] #[], born := 0 }) (0 + 1)) := by rw [← hw1]; exact World.putObj_heap_same (by simp)
  have b1 : Below w.heap.size w w1 := by rw [← hw1]; exact ((Below.refl _ w).alloc (Nat.le_refl _) _).trans (below_put _ _ (Nat.le_refl _))
  rw [hw1] at i0
  have i1 := ins_str w.heap.size _ _ sClr (.func (.func 120) #[] #[]) w1 h1 (by kernel_rfl)
  obtain ⟨w2, hw2⟩ : ∃ w2, w1.putObj w.heap.size (.map ((#[].push { key := .string sDef, val := .func (.func 119) #[] #[], born := 0 }).push { key := .string sClr, val := .func (.func 120) #[] #[], born := 0 + 1 }) (0 + 1 + 1)) = w2 := ⟨_, rfl⟩
  have hl1 := (Array.getElem?_eq_some_iff.1 h1).1
  have h2 : w2.heap[w.heap.size]? = some (.map ((#[].push { key := .string sDef, val := .func (.func 119) #[] #[], born := 0 }).push { key := .string sClr, val := .func (.func 120) #[] #[], born := 0 + 1 }) (0 + 1 + 1)) := by rw [← hw2]; exact World.putObj_heap_same hl1
  have b2 : Below w.heap.size w w2 := by rw [← hw2]; exact b1.trans (below_put _ _ (Nat.le_refl _))
  rw [hw2] at i1
  have i2 := ins_str w.heap.size _ _ sRel (.func (.func 121) #[] #[]) w2 h2 (by kernel_rfl)
  obtain ⟨w3, hw3⟩ : ∃ w3, w2.putObj w.heap.size (.map (((#[].push { key := .string sDef, val := .func (.func 119) #[] #[], born := 0 }).push { key := .string sClr, val := .func (.func 120) #[] #[], born := 0 + 1 }).push { key := .string sRel, val := .func (.func 121) #[] #[], born := 0 + 1 + 1 }) (0 + 1 + 1 + 1)) = w3 := ⟨_, rfl⟩
  have h3 : WM w3 w.heap.size := by rw [← hw3]; exact World.putObj_heap_same (Array.getElem?_eq_some_iff.1 h2).1
  have b3 : Below w.heap.size w w3 := by rw [← hw3]; exact b2.trans (below_put _ _ (Nat.le_refl _))
  rw [hw3] at i2
  have hmm := mk_mapW w
  have HF := Lib.hid (And.intro h3 b3)
  clear hw1 hw2 hw3 h1 h2 h3 b1 b2 b3 hl1
  go_enter Tryz.func90, Tryz.ntmps90
  go_wp2_with fail
  go_ret
  exact ⟨rfl, HF.out⟩
end Go.Proofs.YtenepkgjdoddgaaGreatDoor

/- policy's laws: read: what is deferred, where nothing gives up; what lines do. -/
namespace Go.Proofs.YtenepkgjdoddgaaGreatDoor
open Go.RowKit Go.Shelf

theorem idle_in (n : Nat) (p : Addr) (w : World) :
    CallsDIn Fence.wide n Tryz.prog 89 #[.pointer (some p)] .returning w fun e u' w' => e = .returned (.tuple #[]) ∧ u' = .returning ∧ w' = w := by
  refine callsDIn_of_wpSIn Tryz.func89 rfl trivial fun c₀ cs hu => ?_
  apply wpSIn_seq
  apply wpSIn_region
  simp [wpOpsSIn, go_sem, recoverD, hu, Tryz.ntmps89, Exit.thenS]
  rw [show (#[Value.pointer (some p)] ++ ((Array.replicate 15 undef).setIfInBounds 3 .nilIface).setIfInBounds 0 .nilIface : Array Value) = #[.pointer (some p), .nilIface, undef, undef, .nilIface, undef, undef, undef, undef, undef, undef, undef, undef, undef, undef, undef] from rfl]
  refine wpSIn_of_wpIn rfl ?_
  gi_wp2_with fail
  cases c₀
  simp_all [bodyPostS, results, Tryz.results89]

/-- A policy under way. -/
structure St where
  df : Nat
  ls : List (List Nat × Nat)
  rs : List (List Nat × Nat × Nat)
/-- What a line does. -/
inductive StepOk : Nat → ByteArray → St → St → Prop
  | dflt (x u : ByteArray) (df : Nat) (ls : List (List Nat × Nat)) (rs : List (List Nat × Nat × Nat)) : pcs 32 x = [sDef, u] → u.size ≤ 400 → labE u.data.toList = 0 → StepOk 0 x ⟨df, ls, rs⟩ ⟨labV u.data.toList, ls, rs⟩
  | clear (i : Nat) (x : ByteArray) (T : List UInt8) (u : ByteArray) (df : Nat) (ls : List (List Nat × Nat)) : 0 < i → pcs 32 x = [sClr, ⟨(48 :: 120 :: T).toArray⟩, u] → T.length = 40 → (∀ y ∈ T, dv y < 16) → u.size ≤ 400 → labE u.data.toList = 0 → StepOk i x ⟨df, ls, []⟩ ⟨df, ls ++ [(lowA (valL T), labV u.data.toList)], []⟩
  | release (i : Nat) (x : ByteArray) (T : List UInt8) (ue u : ByteArray) (e0 df : Nat) (ls : List (List Nat × Nat)) (rs : List (List Nat × Nat × Nat)) : 0 < i → pcs 32 x = [sRel, ⟨(48 :: 120 :: T).toArray⟩, ue, u] → T.length = 40 → (∀ y ∈ T, dv y < 16) → ue.size ≤ 400 → e0 < 4294967296 → Lib.parseUintB 32 ue.data.toList = .ok e0 →
      (∀ X, Calls Tryz.prog 51 #[.int .u32 (e0 : Nat)] X fun e w' => e = .returned (.string ue) ∧ Below X.heap.size X w') → u.size ≤ 400 → labE u.data.toList = 0 → StepOk i x ⟨df, ls, rs⟩ ⟨df, ls, rs ++ [(lowA (valL T), e0, labV u.data.toList)]⟩
theorem labV_lt (l : List UInt8) : labV l < 18446744073709551616 := by
  unfold labV
  split
  · rename_i h; exact h.choose_spec.1
  · decide
end Go.Proofs.YtenepkgjdoddgaaGreatDoor

