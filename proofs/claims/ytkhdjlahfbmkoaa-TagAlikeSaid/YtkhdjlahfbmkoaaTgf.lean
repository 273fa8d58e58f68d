/- tag: Word. -/
import Derived.Test.YtkhdjlahfbmkoaaTge
import Derived.Laws.CopyOwn
namespace Go.Proofs.Ytkhdjlahfbmkoaa
open Go.RowKit Go.Shelf
section
attribute [local irreducible] lb byA
/-- The number of bytes. -/
def nuL (l : List Nat) : Nat := numB (fun k => l.getD k 0) l.length
set_option maxRecDepth 100000 in
set_option maxHeartbeats 2000000 in
theorem read_empty (x : Option Addr) (c : Nat) (w : World) :
    Calls Try.prog 44 #[.slice x 0 c] w fun e w' => e = .returned (.tuple #[W 0, .int .i64 0]) ∧ Below w.heap.size w w' := by
  rw [W_zero]
  go_enter Try.func44, Try.ntmps44
  go_wp2
  refine wp_loop_rounds 1 ?_
  rw [rounds_succ]; go_wp2
  exact bodyPost_ret (v := .tuple #[.agg #[.int .u64 0, .int .u64 0, .int .u64 0, .int .u64 0], .int .i64 0]) (by simp [results, Try.results44, go_sem]) rfl ⟨rfl, balloc (balloc (Below.refl _ _) _) _⟩
theorem read_fitso (B : Nat) (v : Value) (l : List Nat) (w : World) (hv : Bto B w v l) (hl : l.length ≤ 32) :
    Calls Try.prog 44 #[v] w fun e w' => e = .returned (.tuple #[W (nuL l), .int .i64 0]) ∧ Below w.heap.size w w' := by
  obtain ⟨h1, x, c, rfl, _, h3, h5⟩ := hv
  by_cases h0 : l = []
  · subst h0
    exact read_empty x c w
  · obtain ⟨b, o, rfl, _, hb, hc⟩ := h5 h0
    · refine read_any b o l.length c (fun k => l.getD k 0) w hl hb (fun k hk => ?_)
      have hk2 : l[k]? = some (l.getD k 0) := by rw [List.getD_eq_getElem?_getD]; simp [hk]
      exact ⟨h1 _ (List.mem_of_getElem? hk2), hc k _ hk2⟩
set_option maxRecDepth 100000 in
set_option maxHeartbeats 2000000 in
theorem rread_empty (x : Option Addr) (c : Nat) (w : World) :
    Calls Try.prog 45 #[.slice x 0 c] w fun e w' => e = .returned (.tuple #[W 0, .int .i64 0]) ∧ Below w.heap.size w w' := by
  have hi : (Try.prog.info? 69).map (·.size) = some (byC 0 32).size := by rw [byC_size]; kernel_rfl
  have HI := Lib.hid hi
  have hu : Try.prog.underlying 69 = some (.array 32 5) := by kernel_rfl
  have HU := Lib.hid hu
  have h32 : byC 0 0 = byC 0 32 := (rdC_zero (fun _ => 0) 0).symm.trans (rdC_all (fun _ => 0) 0 (by omega) (fun k hk => by omega))
  have H32 := Lib.hid h32
  clear hi hu h32
  go_enter Try.func45, Try.ntmps45
  go_wp2_with fail
  go_loopw [5] (fun i wr => i = .int .i64 0 ∧ Blk wr (w.heap.size + 1) 69 (byC 0 32) ∧ Blk wr w.heap.size 26 (Wc 0) ∧ Below w.heap.size w wr) (fun _ _ => 0)
  case atStart =>
    refine ⟨rfl, ?_, ?_, balloc (balloc (Below.refl _ _) _) _⟩
    · rw [← H32.out, byC_zero]; exact Blk.newS _ _ _ _
    · have h := (Blk.new w 26 (Wc 0)).alloc (.cells (byC 0 0) 69)
      rw [byC_zero] at h
      simp only [Wc, lb_zero] at h ⊢
      exact h
  case round =>
    obtain ⟨rfl, hs, hr, hB⟩ := hrel
    have HS := Lib.hid hs
    have HR := Lib.hid hr
    clear hs hr
    go_upto_region 8 with (fail)
    refine wp_region_lit (wpList_load_mid rfl 69 (.tmp 4) rfl (w.heap.size + 1) 0 rfl (byC 0 32).toList _ HS.out.rangeAt HU.out rfl HI.out ?_)
    go_wp2_with (go_at_call 58; refine (rfrom_any 0 _).mono ?_; rintro e wk ⟨rfl, hk⟩; have hr2 := HR.out.keep hk; have hB2 := bstep hB hk; have r0 := (cell_of_row wk _ 0 _ _ _ hr2).trans (wc_get 0 0 (by omega)); have r1 := (cell_of_row wk _ 1 _ _ _ hr2).trans (wc_get 0 1 (by omega)); have r2 := (cell_of_row wk _ 2 _ _ _ hr2).trans (wc_get 0 2 (by omega)); have r3 := (cell_of_row wk _ 3 _ _ _ hr2).trans (wc_get 0 3 (by omega)); have f0 := frozen_of_row wk _ 0 _ _ hr2; have f1 := frozen_of_row wk _ 1 _ _ hr2; have f2 := frozen_of_row wk _ 2 _ _ hr2; have f3 := frozen_of_row wk _ 3 _ _ hr2; clear hr2)
    exact bodyPost_ret (v := .tuple #[W 0, .int .i64 0]) (by simp [results, Try.results45, go_sem, r0, r1, r2, r3]) rfl ⟨rfl, (((hB2.setCell (p := ⟨w.heap.size, 0, none⟩) (by simp) _).setCell (p := ⟨w.heap.size, 1, none⟩) (by simp) _).setCell (p := ⟨w.heap.size, 2, none⟩) (by simp) _).setCell (p := ⟨w.heap.size, 3, none⟩) (by simp) _⟩
theorem rread_fitso (B : Nat) (v : Value) (l : List Nat) (w : World) (hv : Bto B w v l) (hl : l.length ≤ 32) :
    Calls Try.prog 45 #[v] w fun e w' => e = .returned (.tuple #[W (nuL l), .int .i64 0]) ∧ Below w.heap.size w w' := by
  obtain ⟨h1, x, c, rfl, _, h3, h5⟩ := hv
  by_cases h0 : l = []
  · subst h0
    exact rread_empty x c w
  · obtain ⟨b, o, rfl, _, hb, hc⟩ := h5 h0
    refine rread_any b o l.length c (fun k => l.getD k 0) w hl hb (fun k hk => ?_)
    have hk2 : l[k]? = some (l.getD k 0) := by rw [List.getD_eq_getElem?_getD]; simp [hk]
    exact ⟨h1 _ (List.mem_of_getElem? hk2), hc k _ hk2⟩

end
/-- A copy into an own block, at a step of a region that draws its order. -/
theorem wp_copy_own {P : Program} {w : World} {o : Oper} {a : Act} {K : Act → World → Prop} {Q : Exit → Act → World → Prop} (d s : Operand) (dT sT : TypeId)
    (ho : o.op = .call { callee := .builtin .copy, args := #[d, s], argTypes := #[dT, sT] }) (elem : TypeId) (hu : P.underlying dT = some (.slice elem)) (hsz : (P.info? elem).map (·.size) = some 1)
    (g off dLen dCap : Nat) (ad : Addr) (sLen sCap : Nat) (hd : a.eval d = .slice (some ⟨g, off, none⟩) dLen dCap) (hs : a.eval s = .slice (some ad) sLen sCap)
    (cur : Array Value) (t : TypeId) (hg : w.heap[g]? = some (.cells cur t (0, 0))) (cs : List Value) (hn : cs.length = Nat.min sLen dLen)
    (hsrc : ∀ j v, cs[j]? = some v → w.cell? (ad.add j) = some v) (hfit : off + cs.length ≤ cur.size) (h1 : ∀ v ∈ cs, v.oneCell' = true)
    (hK : K (a.put o.dst (goInt cs.length)) (w.setRow g (cur.toList.take off ++ (cs ++ cur.toList.drop (off + cs.length))).toArray)) : Oper.wp P o a w K Q := by
  have hrun := run_copy_row (P := P) w dT sT o.type elem g off dLen dCap ad sLen sCap cur t cs hu hsz hg hn hsrc hfit h1
  unfold Oper.wp
  simp [execOp, ho, resolve, invoke, builtin, hd, hs, hrun, Result.andThen]
  exact hK
theorem infoU1 : (Try.prog.info? 5).map (·.size) = some 1 := by kernel_rfl
/-- The first cells, as many as a word has. -/
abbrev fiL (l : List (Nat × Nat)) : List (Nat × Nat) := paL l 0 32
/-- The number of cells' bytes. -/
def nuC (l : List (Nat × Nat)) : Nat := nuL ((fiL l).map (·.1))
theorem fiB_len (l : List (Nat × Nat)) : ((fiL l).map (·.1)).length = 32 := by rw [List.length_map, paL_len]
theorem fiB_lt {l : List (Nat × Nat)} (h : ∀ a ∈ l, okC a) : ∀ x ∈ (fiL l).map (·.1), x < 256 := fun x hx => by
  obtain ⟨a, ha, rfl⟩ := List.mem_map.1 hx
  exact (paL_ok h 0 32 a ha).1
noncomputable def vaF (i : Nat) : Field := match Try.prog.underlying 29 with
  | some (.struct fs) => (fs[i]?).getD default
  | _ => default
theorem undva : Try.prog.underlying 29 = some (.struct #[vaF 0, vaF 1]) := by kernel_rfl
theorem info_val : (Try.prog.info? 29).map (·.size) = some 5 := by kernel_rfl
theorem ret_val {fn : Func} {p : Tmp} {tmps : Array Value} {X : World} {g n a : Nat} (h : fn.results = #[.cell p 29]) (hp : tmps.getD p undef = .pointer (some ⟨g, 0, none⟩)) (hb : Blk X g 29 (vA n a)) : (results fn tmps).run Try.prog X = .ok (vV n a) X :=
  results_cell_row h _ _ g 29 (vA n a) (0, 0) _ hp hb undva rfl (by rw [info_val]; rfl)
theorem HelN.five {t : TypeId} {W1 w' : World} {R : Nat} (h : HelN 5 t W1 R w') (v0 v1 v2 v3 v4 : Value) : Blk (((((w'.setCell ⟨R, 0, none⟩ v0).setCell ⟨R, 1, none⟩ v1).setCell ⟨R, 2, none⟩ v2).setCell ⟨R, 3, none⟩ v3).setCell ⟨R, 4, none⟩ v4) R t #[v0, v1, v2, v3, v4] := by
  obtain ⟨hg, cs, hs, hb⟩ := h
  obtain ⟨l⟩ := cs
  have hl : l.length = 5 := hs
  obtain ⟨a, b, c, d, e, rfl⟩ : ∃ a b c d e, l = [a, b, c, d, e] := by
    match l, hl with
    | [a, b, c, d, e], _ => exact ⟨a, b, c, d, e, rfl⟩
  have h0 := heap_setCell_same w' R 0 _ _ v0 hb
  have h1 := heap_setCell_same _ R 1 _ _ v1 h0
  have h2 := heap_setCell_same _ R 2 _ _ v2 h1
  have h3 := heap_setCell_same _ R 3 _ _ v3 h2
  exact heap_setCell_same _ R 4 _ _ v4 h3
theorem HelN.blk {n : Nat} {t t' : TypeId} {W1 w' : World} {R g : Nat} {cs : Array Value} (h : HelN n t W1 R w') (hb : Blk W1 g t' cs) (hne : g ≠ R) : Blk w' g t' cs := (h.1.block g hb.lt (fun e => hne (Option.some.inj e))).trans hb
abbrev z5 : Array Value := #[.int .u64 0, .int .u64 0, .int .u64 0, .int .u64 0, .int .u64 0]
set_option maxRecDepth 100000 in
set_option maxHeartbeats 2000000 in
theorem tword_any (B : Nat) (v : Value) (l : List (Nat × Nat)) (w : World) (hB : B ≤ w.heap.size) (hv : Cs B w v l) :
    Calls Try.prog 19 #[v] w fun e w' => e = .returned (vV (nuC l) (jl (fiL l))) ∧ Below w.heap.size w w' := by
  obtain ⟨W1, hW⟩ : ∃ W1, w.alloc (.cells z5 29) = W1 := ⟨_, rfl⟩
  have hal : Below w.heap.size w W1 := by rw [← hW]; exact balloc (Below.refl w.heap.size w) _
  have hN : Blk W1 w.heap.size 29 z5 := by rw [← hW]; exact Blk.new w _ _
  have hs1 : w.heap.size < W1.heap.size := hN.lt
  have hF : Calls Try.prog 43 #[.agg #[v, .int .i64 32], .int .i64 0] W1 fun e w' => ∃ g, e = .returned (.slice (some ⟨g, 0, none⟩) 32 32) ∧ W1.heap.size ≤ g ∧ Blk w' g 53 (cvs (fiL l)).toArray ∧ Below W1.heap.size W1 w' := from_any B 0 32 (by omega) v l W1 (by omega) (hv.new hal)
  have HF := Lib.hid hF
  have HFI := Lib.hid (And.intro (paL_ok hv.1 0 32) (And.intro (fiB_lt hv.1) (fiB_len l)))
  have HW := Lib.hid (And.intro hW (And.intro hal (And.intro hN hs1)))
  obtain ⟨x, c, rfl⟩ := hv.is
  clear hv hB hW hal hN hs1 hF
  go_enter Try.func19, Try.ntmps19
  go_upto_region 3 with (first | (rw [HW.out.1]; go_at_call 43; refine (HF.out).mono ?_; rintro e w1 ⟨g, rfl, hg, hb, hw⟩; have H1 := Lib.hid (And.intro hg (And.intro hb hw)); clear hg hb hw))
  obtain ⟨W2, hW2⟩ : ∃ W2, w1.alloc (.cells (byC 0 0) 69) = W2 := ⟨_, rfl⟩
  have hal2 : Below w1.heap.size w1 W2 := by rw [← hW2]; exact balloc (Below.refl w1.heap.size w1) _
  have hA : Blk W2 w1.heap.size 69 (byC 0 0) := by rw [← hW2]; exact Blk.new w1 _ _
  rw [byC_zero] at hW2
  have HW2 := Lib.hid (And.intro hal2 hA)
  rw [hW2]
  clear hW2 hal2 hA
  have hsl : ∀ w', (Instr.sliceAt 69 (.pointer (some ⟨w1.heap.size, 0, none⟩)) none none none).run Try.prog w' = .ok (.slice (some ⟨w1.heap.size, 0, none⟩) 32 32) w' := fun w' => by kernel_rfl
  have hS0 : Below W2.heap.size W2 W2.drew := (Below.refl _ _).drew
  have h0R : Below W2.heap.size W2 W2.drew := (Below.refl _ _).drew
  have HELD0 : Below W2.heap.size W2 W2.drew := h0R
  have HBY := Lib.hid (fun (Y : World) (h : Below W2.heap.size W2 Y) => by
    have h1 := tbytes_any Y.heap.size (.slice (some ⟨g, 0, none⟩) 32 32) (fiL l) (by rw [paL_len]; omega) Y (by
      have h2 := Cs.of_blk ((H1.out.2.1.keep HW2.out.1).keep h) HFI.out.1 (by rw [paL_len]; omega)
      rwa [paL_len] at h2)
    rw [paL_len] at h1
    exact h1)
  refine wp_region_held_drew (S := fun _ => True) (by as_aux_lemma => kernel_rfl) trivial (fun hHeld => ?_)
  simp only [List.size_toArray, List.length_cons, List.length_nil, Nat.reduceAdd, Array.replicate_succ, Array.replicate_zero, List.push_toArray, List.nil_append, List.cons_append]
  refine wpAnyH_take (i := 0) (oi := { dst := some 10, op := Op.slice 69 (Operand.tmp 4) none none none, type := 23, pos := "tag.go:43", after := #[], guard := none }) (v := ?vq0) rfl (by as_aux_lemma => kernel_rfl) (by as_aux_lemma => kernel_rfl) (by as_aux_lemma => kernel_rfl) (fun _ _ _ h => h) (Or.inl ⟨by rfl, ?yq0⟩) (by assumption) ?rq0
  case yq0 => (intro w hSw; (try dsimp only at hSw); go_simp <;> with_reducible rfl)
  simp only [Act.put, List.setIfInBounds_toArray, List.set_cons_zero, List.set_cons_succ]
  refine wpAnyH_take (i := 1) (oi := { dst := some 11, op := Op.move (Operand.tmp 3), type := 22, pos := "tag.go:43", after := #[], guard := none }) (v := ?vq1) rfl (by as_aux_lemma => kernel_rfl) (by as_aux_lemma => kernel_rfl) (by as_aux_lemma => kernel_rfl) (fun _ _ _ h => h) (Or.inl ⟨by rfl, ?yq1⟩) (by assumption) ?rq1
  case yq1 => (intro w hSw; (try dsimp only at hSw); go_simp <;> with_reducible rfl)
  simp only [Act.put, List.setIfInBounds_toArray, List.set_cons_zero, List.set_cons_succ]
  refine wpAnyH_ready (rs := [2]) (by as_aux_lemma => kernel_rfl) (by simp) ?_
  refine AllReadyH.cons (o := { dst := some 12, op := Op.call { callee := Callee.value (Operand.func 11), args := #[Operand.tmp 11], argTypes := #[22] }, type := 23, pos := "tag.go:43", after := #[{ on := 1, ground := Ground.data }], guard := none }) rfl (fun K hK => ?_) (by exact AllReadyH.nil)
  rw [if_pos (by rfl)]
  go_simp
  refine (HBY.out _ HELD0).mono ?_
  rintro e w3 ⟨g3, rfl, hg3, hb3, hw3⟩
  refine hK.out _ _ (by (try dsimp only); (try trivial)) (fun hHeld => ?_)
  clear hK K
  simp only [List.setIfInBounds_toArray, List.set_cons_zero, List.set_cons_succ]
  refine wpAnyH_ready (rs := [3]) (by as_aux_lemma => kernel_rfl) (by simp) ?_
  refine AllReadyH.cons (o := { dst := some 13, op := Op.call { callee := Callee.builtin Builtin.copy, args := #[Operand.tmp 10, Operand.tmp 12], argTypes := #[23, 23] }, type := 3, pos := "tag.go:43", after := #[{ on := 0, ground := Ground.data }, { on := 2, ground := Ground.data }, { on := 2, ground := Ground.chain }], guard := none }) rfl (fun K hK => ?_) (by exact AllReadyH.nil)
  rw [if_pos (by rfl)]
  refine wp_copy_own (.tmp 10) (.tmp 12) 23 23 rfl 5 (by kernel_rfl) infoU1 w1.heap.size 0 32 32 ⟨g3, 0, none⟩ 32 32 rfl rfl (byC 0 0) 69 (HW2.out.2.keep (X := W2.drew) hw3) (bvs ((fiL l).map (·.1))) (by rw [bvs_len, HFI.out.2.2]; rfl) (fun j v hj => by rw [Go.WideShapes.add_plain, Nat.zero_add, cell_of_row _ _ _ _ _ _ hb3, List.getElem?_toArray]; exact hj) (by rw [bvs_len, HFI.out.2.2, byC_size]; omega) (bvs_one _) ?_
  refine hK.out _ _ (by (try dsimp only); (try trivial)) (fun hHeld => ?_)
  clear hK K
  simp only [List.setIfInBounds_toArray, List.set_cons_zero, List.set_cons_succ]
  refine wpAnyH_done (by as_aux_lemma => kernel_rfl) ?_ _
  clear h0R
  simp only [Act.put, List.setIfInBounds_toArray, List.set_cons_zero, List.set_cons_succ]
  generalize goInt _ = z13
  obtain ⟨W4, hW4⟩ : ∃ W4, w3.setRow w1.heap.size ((byC 0 0).toList.take 0 ++ (bvs ((fiL l).map (·.1)) ++ (byC 0 0).toList.drop (0 + (bvs ((fiL l).map (·.1))).length))).toArray = W4 := ⟨_, rfl⟩
  rw [hW4]
  have hrow : ((byC 0 0).toList.take 0 ++ (bvs ((fiL l).map (·.1)) ++ (byC 0 0).toList.drop (0 + (bvs ((fiL l).map (·.1))).length))).toArray = (bvs ((fiL l).map (·.1))).toArray := by
    rw [List.take_zero, List.nil_append, List.drop_eq_nil_of_le (by rw [bvs_len, HFI.out.2.2, Array.length_toList, byC_size]; omega), List.append_nil]
  rw [hrow] at hW4
  have hbel3 : Below W2.heap.size W2 w3 := bstep hS0 hw3
  have hA4 : Blk W4 w1.heap.size 69 (bvs ((fiL l).map (·.1))).toArray := by rw [← hW4]; exact setRow_heap _ _ _ _ _ _ (HW2.out.2.keep hbel3)
  have hlt1 : w1.heap.size < W2.heap.size := HW2.out.2.lt
  have hb24 : Below w1.heap.size W2 W4 := by rw [← hW4]; exact below_setRow (hbel3.mono (by omega)) (Nat.le_refl _) _
  have hb14 : Below w1.heap.size w1 W4 := HW2.out.1.trans hb24
  have hw4 : Below W1.heap.size W1 W4 := H1.out.2.2.trans (hb14.mono H1.out.2.2.size)
  have H4 := Lib.hid (And.intro hA4 (And.intro (H1.out.2.1.keep hb14) (And.intro (HW.out.2.2.1.keep hw4) (bstep HW.out.2.1 hw4))))
  clear hW4 hrow hbel3 hA4 hlt1 hb24 hb14 hw4 hb3 hw3 hg3
  obtain ⟨b, hbe⟩ : ∃ b, (fiL l).map (·.1) = b := ⟨_, rfl⟩
  obtain ⟨nb, hnb⟩ : ∃ nb, nuL b = nb := ⟨_, rfl⟩
  have hnu : nuC l = nb := by rw [← hnb, ← hbe]; rfl
  obtain ⟨hA4, hB4, hC4⟩ := H4.out
  rw [hbe] at hA4
  have hbl : b.length = 32 := by rw [← hbe]; exact HFI.out.2.2
  have hblt : ∀ x ∈ b, x < 256 := by rw [← hbe]; exact HFI.out.2.1
  have hbt : Bto W4.heap.size W4 (.slice (some ⟨w1.heap.size, 0, none⟩) 32 32) b := by
    have := Bto.of_row hA4 hblt (by omega)
    rwa [hbl] at this
  have HRD := Lib.hid (read_fitso W4.heap.size _ b W4 hbt (by omega))
  rw [hnb] at HRD
  have hsl2 := hsl
  have H4' := Lib.hid (And.intro hB4 hC4)
  clear hbt hbl hblt hbe hnb hA4 hB4 hC4 H4
  have HNU := Lib.hid hnu
  clear hnu
  go_upto_region 5 with (first | (go_at_call 44; refine (HRD.out).mono ?_; rintro e w5 ⟨rfl, hw⟩; have H5 := Lib.hid hw; clear hw))
  obtain ⟨W6, hW6⟩ : ∃ W6, w5.alloc (.cells (Wc nb) 26) = W6 := ⟨_, rfl⟩
  have hal6 : Below w5.heap.size w5 W6 := by rw [← hW6]; exact balloc (Below.refl w5.heap.size w5) _
  have hN6 : Blk W6 w5.heap.size 26 (Wc nb) := by rw [← hW6]; exact Blk.new w5 _ _
  rw [hW6]
  clear hW6
  have hb46 : Below W4.heap.size W4 W6 := bstep H5.out hal6
  have hlt0 : w.heap.size < W4.heap.size := H4'.out.2.1.lt
  have hR6 : Blk W6 w.heap.size 29 z5 := H4'.out.2.1.keep hb46
  have hle5 : W4.heap.size ≤ w5.heap.size := H5.out.size
  have hne5 : w5.heap.size ≠ w.heap.size := by omega
  have hg6 : Blk W6 g 53 (cvs (fiL l)).toArray := H4'.out.1.keep hb46
  have hneg : g ≠ w.heap.size := by have h1 := H1.out.1; have h2 := HW.out.2.2.2; omega
  have hbel : Below w.heap.size w W6 := H4'.out.2.2.trans (hb46.mono (by omega))
  have l0 : ∀ w', HelN 5 29 W6 w.heap.size w' → w'.cell? ⟨w5.heap.size, 0, none⟩ = some (.int .u64 (lb nb 0)) := fun w' h => cell_of_row _ _ 0 _ _ _ (h.blk hN6 hne5)
  have l1 : ∀ w', HelN 5 29 W6 w.heap.size w' → w'.cell? ⟨w5.heap.size, 1, none⟩ = some (.int .u64 (lb nb 1)) := fun w' h => cell_of_row _ _ 1 _ _ _ (h.blk hN6 hne5)
  have l2 : ∀ w', HelN 5 29 W6 w.heap.size w' → w'.cell? ⟨w5.heap.size, 2, none⟩ = some (.int .u64 (lb nb 2)) := fun w' h => cell_of_row _ _ 2 _ _ _ (h.blk hN6 hne5)
  have l3 : ∀ w', HelN 5 29 W6 w.heap.size w' → w'.cell? ⟨w5.heap.size, 3, none⟩ = some (.int .u64 (lb nb 3)) := fun w' h => cell_of_row _ _ 3 _ _ _ (h.blk hN6 hne5)
  have c0 : ∀ w', HelN 5 29 W6 w.heap.size w' → w'.cell? ⟨w.heap.size, 0, none⟩ = some (cellV w' ⟨w.heap.size, 0, none⟩) := fun w' h => h.cell 0 (by omega)
  have f0 : ∀ w', HelN 5 29 W6 w.heap.size w' → w'.frozen? ⟨w.heap.size, 0, none⟩ = false := fun w' h => h.frozen 0
  have c1 : ∀ w', HelN 5 29 W6 w.heap.size w' → w'.cell? ⟨w.heap.size, 1, none⟩ = some (cellV w' ⟨w.heap.size, 1, none⟩) := fun w' h => h.cell 1 (by omega)
  have f1 : ∀ w', HelN 5 29 W6 w.heap.size w' → w'.frozen? ⟨w.heap.size, 1, none⟩ = false := fun w' h => h.frozen 1
  have c2 : ∀ w', HelN 5 29 W6 w.heap.size w' → w'.cell? ⟨w.heap.size, 2, none⟩ = some (cellV w' ⟨w.heap.size, 2, none⟩) := fun w' h => h.cell 2 (by omega)
  have f2 : ∀ w', HelN 5 29 W6 w.heap.size w' → w'.frozen? ⟨w.heap.size, 2, none⟩ = false := fun w' h => h.frozen 2
  have c3 : ∀ w', HelN 5 29 W6 w.heap.size w' → w'.cell? ⟨w.heap.size, 3, none⟩ = some (cellV w' ⟨w.heap.size, 3, none⟩) := fun w' h => h.cell 3 (by omega)
  have f3 : ∀ w', HelN 5 29 W6 w.heap.size w' → w'.frozen? ⟨w.heap.size, 3, none⟩ = false := fun w' h => h.frozen 3
  have c4 : ∀ w', HelN 5 29 W6 w.heap.size w' → w'.cell? ⟨w.heap.size, 4, none⟩ = some (cellV w' ⟨w.heap.size, 4, none⟩) := fun w' h => h.cell 4 (by omega)
  have f4 : ∀ w', HelN 5 29 W6 w.heap.size w' → w'.frozen? ⟨w.heap.size, 4, none⟩ = false := fun w' h => h.frozen 4
  have h0 : HelN 5 29 W6 w.heap.size W6.drew := HelN.start rfl hR6
  have HL := Lib.hid (fun (Y : World) (h : HelN 5 29 W6 w.heap.size Y) => by
    have h1 := tlabel_any Y.heap.size (.slice (some ⟨g, 0, none⟩) 32 32) (fiL l) (by rw [paL_len]; omega) Y (by
      have h2 := Cs.of_blk (h.blk hg6 hneg) HFI.out.1 (by rw [paL_len]; omega)
      rwa [paL_len] at h2)
    exact h1)
  have H6 := Lib.hid hbel
  clear hal6 hN6 hb46 hlt0 hR6 hle5 hne5 hg6 hneg hbel hsl hsl2
  go_region_held3 (fun w' => HelN 5 29 W6 w.heap.size w') (first | assumption | exact HelN.call (by assumption) (by assumption) | exact HelN.set (HelN.set (HelN.set (HelN.set (HelN.set (by assumption) _ _) _ _) _ _) _ _) _ _) (first
    | (go_at_call 13; refine (HL.out _ (by assumption)).mono ?_; rintro e w7 ⟨rfl, hw7⟩; have hH : HelN 5 29 W6 w.heap.size w7 := HelN.call hw7 (by assumption)))
  all_goals
    go_wp2_with fail
    (try simp only [Exit.inBlock, Exit.then])
    refine bodyPost_ret (ret_val rfl rfl (HelN.five (by assumption) _ _ _ _ _)) rfl ⟨by rw [HNU.out], HelN.below (by assumption) H6.out (Nat.le_refl _) (Nat.le_refl _)⟩
end Go.Proofs.Ytkhdjlahfbmkoaa
