/- Texts laid into one: Pn. -/
import Derived.Test.YtenepkgjdoddgaaGreatDoorAg
import Derived.Test.YtenepkgjdoddgaaGreatDoorPk
import Derived.Test.YtenepkgjdoddgaaGreatDoorPr
import Derived.Test.YtenepkgjdoddgaaGreatDoorAw
import Derived.Test.YtenepkgjdoddgaaGreatDoorPl
import Derived.Test.YtenepkgjdoddgaaGreatDoorPc
/- policy's laws: the reader, where a number's text wants the powers of ten. -/
namespace Go.Proofs.YtenepkgjdoddgaaGreatDoor
open Go.RowKit Go.Shelf

set_option linter.unusedSimpArgs false
theorem grown_none {X Y : World} {R : Nat} (h : X.grownBy Y none) : X.grownBy Y (some R) := ⟨h.os, h.tape, h.output, h.size, fun i hi _ => h.block i hi (by simp)⟩
set_option maxRecDepth 100000 in
set_option maxHeartbeats 2000000 in
theorem entry_okT (R b k n : Nat) (cs : List ByteArray) (u : ByteArray) (v : Value) (num df : Int) (vc vr : Value) (w : World) (hR : Rd w R v num df vc vr) (hb : Wd w b cs k v) (hk : cs[k]? = some u) (hs : u.size ≤ 400) (hn : n < 4294967296)
    (hP : Lib.parseUintB 32 u.data.toList = .ok n) (hF : ∀ X, w.grownBy X (some R) → Calls Tryz.prog 51 #[.int .u32 (n : Nat)] X fun e w' => e = .returned (.string u) ∧ Below X.heap.size X w') :
    Calls Tryz.prog 143 #[.pointer (some ⟨R, 0, none⟩)] w fun e w' => e = .returned (.int .u32 (n : Nat)) ∧ ∃ v', Rd w' R v' num df vc vr ∧ Wd w' b cs (k + 1) v' ∧ w.grownBy w' (some R) := by
  have HN := Lib.hid (next_ok R b k cs u v num df vc vr w hR hb hk)
  have HP := Lib.hid (fun X => parseUint_ok u (by omega) n hP X)
  have HF := Lib.hid hF
  have g1 : IntKind.u32.wrap (n : Int) = (n : Int) := IntWalk.u32_in _ (by omega)
  have hq : (u.toList == u.toList) = true := by simp
  clear hR hb hk hs hP hF
  go_enter Tryz.func143, Tryz.ntmps143
  go_wp2_with (first
    | (go_at_call 94; refine (HN.out).mono ?_; rintro e w1 ⟨rfl, v', hR, hb, hg⟩; have H1 := Lib.hid (And.intro hR (And.intro hb hg)); clear hR hb hg)
    | (go_at_call 158; refine (HP.out _).mono ?_; rintro e w2 ⟨rfl, h2⟩; have H2 := Lib.hid h2; clear h2)
    | (go_at_call 51; refine (HF.out _ (by obtain ⟨_, _, hg⟩ := H1.out; rcases H2.out with h | h <;> rw [h] <;> first | exact hg | exact grown_stp hg ((Lib.bytesWorld_below _ _ _).mono hg.size))).mono ?_; rintro e w3 ⟨rfl, h3⟩; have H3 := Lib.hid h3; clear h3)
    | (go_at_call 92; refine (need_b _ rfl _).mono ?_; rintro e w' ⟨rfl, rfl⟩)
    | fail)
  go_ret
  obtain ⟨hR, hb, hg⟩ := H1.out
  have h2 : Below w1.heap.size w1 w2 := by
    rcases H2.out with h | h
    · rw [h]; exact Below.refl _ _
    · rw [h]; exact Lib.bytesWorld_below _ _ _
  have h3 := h2.trans (H3.out.mono h2.size)
  exact ⟨rfl, v', Rd.kept hR (grown_new h3) (by simp), Wd.kept hb (grown_new h3) (by simp), grown_stp hg (h3.mono hg.size)⟩
set_option maxRecDepth 100000 in
set_option maxHeartbeats 4000000 in
theorem release_okT (R b k e0 l n₀ : Nat) (cs : List ByteArray) (T : List UInt8) (ue u : ByteArray) (v : Value) (num : Nat) (df : Int) (vl vc : Value) (ls : List (List Nat × Nat × Nat)) (w : World) (hR : Rd w R v num df vl vc) (hb : Wd w b cs k v) (hnum : 0 < num)
    (hk : cs[k]? = some ⟨(48 :: 120 :: T).toArray⟩) (hk1 : cs[k + 1]? = some ue) (hk2 : cs[k + 2]? = some u) (hue : ue.size ≤ 400) (he0 : e0 < 4294967296) (hP : Lib.parseUintB 32 ue.data.toList = .ok e0) (hF : ∀ X, w.grownBy X (some R) → Calls Tryz.prog 51 #[.int .u32 (e0 : Nat)] X fun e w' => e = .returned (.string ue) ∧ Below X.heap.size X w') (hl : T.length = 40) (hok : ∀ y ∈ T, dv y < 16) (hu : u.size ≤ 400) (he : labE u.data.toList = 0) (hlab : labV u.data.toList = l) (hTS : ∀ w', w.grownBy w' (some R) → TZ w') (hn₀ : n₀ ≤ R) (hns : n₀ ≤ w.heap.size)
    (hC : OwR w n₀ vc ls) (hCR : vc.ownBlock ≠ some R ∧ vc.ownBlock ≠ some b) (hl64 : l < 18446744073709551616) (hlen : ls.length ≤ 100000) :
    Calls Tryz.prog 121 #[.pointer (some ⟨R, 0, none⟩)] w fun e w' => e = .returned (.tuple #[]) ∧ ∃ v' vc', Rd w' R v' num df vl vc' ∧ Wd w' b cs (k + 3) v' ∧ OwR w' n₀ vc' (ls ++ [(lowA (valL T), e0, l)]) ∧
      (vc'.ownBlock = vc.ownBlock ∨ ∃ g, vc'.ownBlock = some g ∧ w.heap.size ≤ g) ∧ Below n₀ w w' ∧ KeptM (fun k => k ≠ R ∧ vc.ownBlock ≠ some k) w w' := by
  have c1 : w.cell? ⟨R, 1, none⟩ = some (.int .i64 (num : Nat)) := cell_of_row w R 1 _ _ _ hR
  have c3 : w.cell? ⟨R, 4, none⟩ = some vc := cell_of_row w R 4 _ _ _ hR
  have hnI : (0 : Int) < (num : Int) := by omega
  have hltR := Blk.lt hR
  have HN := Lib.hid (show n₀ ≤ R ∧ n₀ ≤ w.heap.size ∧ vc.ownBlock ≠ some R ∧ vc.ownBlock ≠ some b ∧ ls.length ≤ 100000 ∧ (e0 < 4294967296 ∧ l < 18446744073709551616) ∧ R < w.heap.size from ⟨hn₀, hns, hCR.1, hCR.2, hlen, ⟨he0, hl64⟩, hltR⟩)
  have HK := Lib.hid (And.intro hk (And.intro hk1 (And.intro hl (And.intro hok (And.intro hu (And.intro he (And.intro hlab (And.intro hk2 (And.intro hue (And.intro he0 (And.intro hP hF)))))))))))
  have HH := Lib.hid (And.intro hR (And.intro hb (And.intro hC hTS)))
  clear hR hb hC hTS hk hk1 hk2 hue he0 hP hF hl hok hu he hlab hn₀ hns hCR hl64 hlen hltR
  go_enter Tryz.func121, Tryz.ntmps121
  go_upto_region 1 with (first | (go_at_call 92; refine (need_b _ rfl _).mono ?_; rintro e w' ⟨rfl, rfl⟩) | fail)
  --REG
  obtain ⟨WD, hWD⟩ : ∃ WD, w.drew = WD := ⟨_, rfl⟩
  have hgD : w.grownBy WD none := by rw [← hWD]; exact ⟨rfl, rfl, rfl, Nat.le_refl _, fun _ _ _ => rfl⟩
  have cW : WD.cell? ⟨R, 4, none⟩ = some vc := by rw [← hWD]; exact c3
  have H0 := Lib.hid (show Rd WD R v num df vl vc ∧ Wd WD b cs k v ∧ OwR WD n₀ vc ls ∧ (∀ X, WD.grownBy X (some R) → TZ X) from ⟨Rd.kept HH.out.1 hgD (by simp), Wd.kept HH.out.2.1 hgD (by simp), ⟨HH.out.2.2.1.1.kept hgD (by cases vc.ownBlock <;> simp), HH.out.2.2.1.2⟩, fun X hX => HH.out.2.2.2 X ⟨hX.os.trans hgD.os, hX.tape.trans hgD.tape, hX.output.trans hgD.output, Nat.le_trans hgD.size hX.size, fun i hi hr => (hX.block i (Nat.lt_of_lt_of_le hi hgD.size) hr).trans (hgD.block i hi (by simp))⟩⟩)
  have hWDs : WD.heap.size = w.heap.size := by rw [← hWD]; rfl
  have HD := Lib.hid (And.intro hgD hWD)
  rw [← hWDs] at HN
  clear hgD hWDs c1 c3 hnI hnum
  have hbld := fun X => build_release (lowA_ad (valL T)) e0 l X
  refine wp_region_held_drew (S := fun _ => True) (by as_aux_lemma => kernel_rfl) trivial (fun hHeld => ?_)
  rw [HD.out.2]
  simp only [List.size_toArray, List.length_cons, List.length_nil, Nat.reduceAdd, Array.replicate_succ, Array.replicate_zero, List.push_toArray, List.nil_append, List.cons_append]
  refine wpAnyH_take (i := 0) (oi := { dst := some 8, op := Op.move (Operand.tmp 0), type := 147, pos := "reader.go:87", after := #[], guard := none }) (v := ?vq0) rfl (by as_aux_lemma => kernel_rfl) (by as_aux_lemma => kernel_rfl) (by as_aux_lemma => kernel_rfl) (fun _ _ _ h => h) (Or.inl ⟨by rfl, ?yq0⟩) (by assumption) ?rq0
  case yq0 => (intro w hSw; (try dsimp only at hSw); go_simp <;> with_reducible rfl)
  simp only [Act.put, List.setIfInBounds_toArray, List.set_cons_zero, List.set_cons_succ]
  refine wpAnyH_take (i := 1) (oi := { dst := some 9, op := Op.move (Operand.tmp 0), type := 147, pos := "reader.go:87", after := #[], guard := none }) (v := ?vq1) rfl (by as_aux_lemma => kernel_rfl) (by as_aux_lemma => kernel_rfl) (by as_aux_lemma => kernel_rfl) (fun _ _ _ h => h) (Or.inl ⟨by rfl, ?yq1⟩) (by assumption) ?rq1
  case yq1 => (intro w hSw; (try dsimp only at hSw); go_simp <;> with_reducible rfl)
  simp only [Act.put, List.setIfInBounds_toArray, List.set_cons_zero, List.set_cons_succ]
  refine wpAnyH_take (i := 2) (oi := { dst := some 10, op := Op.nilCheck (Operand.tmp 9), type := 0, pos := "reader.go:87", after := #[{ on := 1, ground := Ground.data }], guard := none }) (v := ?vq2) rfl (by as_aux_lemma => kernel_rfl) (by as_aux_lemma => kernel_rfl) (by as_aux_lemma => kernel_rfl) (fun _ _ _ h => h) (Or.inl ⟨by rfl, ?yq2⟩) (by assumption) ?rq2
  case yq2 => (intro w hSw; (try dsimp only at hSw); go_simp <;> with_reducible rfl)
  simp only [Act.put, List.setIfInBounds_toArray, List.set_cons_zero, List.set_cons_succ]
  refine wpAnyH_take (i := 3) (oi := { dst := some 11, op := Op.fieldAddr 141 (Operand.tmp 10) 2, type := 0, pos := "reader.go:87", after := #[{ on := 2, ground := Ground.data }], guard := none }) (v := ?vq3) rfl (by as_aux_lemma => kernel_rfl) (by as_aux_lemma => kernel_rfl) (by as_aux_lemma => kernel_rfl) (fun _ _ _ h => h) (Or.inl ⟨by rfl, ?yq3⟩) (by assumption) ?rq3
  case yq3 => (intro w hSw; (try dsimp only at hSw); go_simp <;> with_reducible rfl)
  simp only [Act.put, List.setIfInBounds_toArray, List.set_cons_zero, List.set_cons_succ]
  refine wpAnyH_take (i := 4) (oi := { dst := some 12, op := Op.fieldAddr 27 (Operand.tmp 11) 2, type := 0, pos := "reader.go:87", after := #[{ on := 3, ground := Ground.data }], guard := none }) (v := ?vq4) rfl (by as_aux_lemma => kernel_rfl) (by as_aux_lemma => kernel_rfl) (by as_aux_lemma => kernel_rfl) (fun _ _ _ h => h) (Or.inl ⟨by rfl, ?yq4⟩) (by assumption) ?rq4
  case yq4 => (intro w hSw; (try dsimp only at hSw); go_simp <;> with_reducible rfl)
  simp only [Act.put, List.setIfInBounds_toArray, List.set_cons_zero, List.set_cons_succ]
  refine wpAnyH_take (i := 6) (oi := { dst := some 14, op := Op.move (Operand.tmp 0), type := 147, pos := "reader.go:87", after := #[], guard := none }) (v := ?vq5) rfl (by as_aux_lemma => kernel_rfl) (by as_aux_lemma => kernel_rfl) (by as_aux_lemma => kernel_rfl) (fun _ _ _ h => h) (Or.inl ⟨by rfl, ?yq5⟩) (by assumption) ?rq5
  case yq5 => (intro w hSw; (try dsimp only at hSw); go_simp <;> with_reducible rfl)
  simp only [Act.put, List.setIfInBounds_toArray, List.set_cons_zero, List.set_cons_succ]
  refine wpAnyH_take (i := 8) (oi := { dst := some 16, op := Op.move (Operand.tmp 0), type := 147, pos := "reader.go:87", after := #[], guard := none }) (v := ?vq6) rfl (by as_aux_lemma => kernel_rfl) (by as_aux_lemma => kernel_rfl) (by as_aux_lemma => kernel_rfl) (fun _ _ _ h => h) (Or.inl ⟨by rfl, ?yq6⟩) (by assumption) ?rq6
  case yq6 => (intro w hSw; (try dsimp only at hSw); go_simp <;> with_reducible rfl)
  simp only [Act.put, List.setIfInBounds_toArray, List.set_cons_zero, List.set_cons_succ]
  refine wpAnyH_take (i := 10) (oi := { dst := some 18, op := Op.move (Operand.tmp 0), type := 147, pos := "reader.go:87", after := #[], guard := none }) (v := ?vq7) rfl (by as_aux_lemma => kernel_rfl) (by as_aux_lemma => kernel_rfl) (by as_aux_lemma => kernel_rfl) (fun _ _ _ h => h) (Or.inl ⟨by rfl, ?yq7⟩) (by assumption) ?rq7
  case yq7 => (intro w hSw; (try dsimp only at hSw); go_simp <;> with_reducible rfl)
  simp only [Act.put, List.setIfInBounds_toArray, List.set_cons_zero, List.set_cons_succ]
  refine wpAnyH_ready (rs := [5, 7]) (by as_aux_lemma => kernel_rfl) (by simp) ?_
  refine AllReadyH.cons (o := { dst := some 13, op := Op.load 25 (Operand.tmp 12), type := 25, pos := "reader.go:87", after := #[{ on := 4, ground := Ground.data }], guard := none }) rfl (fun K hK => ?_) ?_
  · rw [if_pos (by rfl)]
    go_simp
    refine hK.out _ _ (by (try dsimp only); (try trivial)) (fun hHeld => ?_)
    clear hK K
    simp only [List.setIfInBounds_toArray, List.set_cons_zero, List.set_cons_succ]
    refine wpAnyH_ready (rs := [7]) (by as_aux_lemma => kernel_rfl) (by simp) ?_
    refine AllReadyH.cons (o := { dst := some 15, op := Op.call { callee := Callee.value (Operand.func 142), args := #[Operand.tmp 14], argTypes := #[147] }, type := 29, pos := "reader.go:87", after := #[{ on := 6, ground := Ground.data }], guard := none }) rfl (fun K hK => ?_) (by exact AllReadyH.nil)
    rw [if_pos (by rfl)]
    go_simp
    refine (raddr_ok R b k cs T v num df vl vc _ H0.out.1 H0.out.2.1 HK.out.1 HK.out.2.2.1 HK.out.2.2.2.1).mono ?_
    rintro e w1 ⟨rfl, v1, hR1, hb1, hg1⟩
    have cA : w1.cell? ⟨R, 4, none⟩ = some vc := cell_of_row w1 R 4 _ _ _ hR1
    have H1 := Lib.hid (And.intro hR1 (And.intro hb1 hg1))
    clear hR1 hb1 hg1
    refine hK.out _ _ (by (try dsimp only); (try trivial)) (fun hHeld => ?_)
    clear hK K
    simp only [List.setIfInBounds_toArray, List.set_cons_zero, List.set_cons_succ]
    refine wpAnyH_ready (rs := [9]) (by as_aux_lemma => kernel_rfl) (by simp) ?_
    refine AllReadyH.cons (o := { dst := some 17, op := Op.call { callee := Callee.value (Operand.func 143), args := #[Operand.tmp 16], argTypes := #[147] }, type := 30, pos := "reader.go:87", after := #[{ on := 8, ground := Ground.data }, { on := 7, ground := Ground.chain }], guard := none }) rfl (fun K hK => ?_) (by exact AllReadyH.nil)
    rw [if_pos (by rfl)]
    go_simp
    have HL0 := Lib.hid (entry_okT R b (k + 1) e0 cs ue v1 num df vl vc w1 H1.out.1 H1.out.2.1 HK.out.2.1 HK.out.2.2.2.2.2.2.2.2.1 HK.out.2.2.2.2.2.2.2.2.2.1 HK.out.2.2.2.2.2.2.2.2.2.2.1 (fun X hX => HK.out.2.2.2.2.2.2.2.2.2.2.2 X (grown_both (grown_both (grown_none HD.out.1) H1.out.2.2) hX)))
    refine (HL0.out).mono ?_
    rintro e w2 ⟨rfl, v2, hR2, hb2, hg2⟩
    have cB : w2.cell? ⟨R, 4, none⟩ = some vc := cell_of_row w2 R 4 _ _ _ hR2
    have H2 := Lib.hid (And.intro hR2 (And.intro hb2 (grown_both H1.out.2.2 hg2)))
    clear hR2 hb2 hg2 HL0
    refine hK.out _ _ (by (try dsimp only); (try trivial)) (fun hHeld => ?_)
    clear hK K
    simp only [List.setIfInBounds_toArray, List.set_cons_zero, List.set_cons_succ]
    refine wpAnyH_ready (rs := [11]) (by as_aux_lemma => kernel_rfl) (by simp) ?_
    refine AllReadyH.cons (o := { dst := some 19, op := Op.call { callee := Callee.value (Operand.func 141), args := #[Operand.tmp 18], argTypes := #[147] }, type := 23, pos := "reader.go:87", after := #[{ on := 10, ground := Ground.data }, { on := 9, ground := Ground.chain }], guard := none }) rfl (fun K hK => ?_) (by exact AllReadyH.nil)
    rw [if_pos (by rfl)]
    go_simp
    have HL := Lib.hid (label_ok R b (k + 2) cs u v2 num df vl vc w2 H2.out.1 H2.out.2.1 HK.out.2.2.2.2.2.2.2.1 HK.out.2.2.2.2.1 (fun X hX => H0.out.2.2.2 X (grown_both H2.out.2.2 hX)) HK.out.2.2.2.2.2.1)
    rw [HK.out.2.2.2.2.2.2.1] at HL
    refine (HL.out).mono ?_
    rintro e w3 ⟨rfl, v3, hR3, hb3, hg3⟩
    obtain ⟨gn, cn, w5, hap, cC, c5, f5, hfin⟩ := release_end R b (k + 3) e0 l n₀ cs T v3 num df vl vc ls WD w2 w3 hR3 hb3 H2.out.2.2 hg3 H0.out.2.2.1 HN.out
    have cD : w3.cell? ⟨R, 4, none⟩ = some vc := cell_of_row w3 R 4 _ _ _ hR3
    have hbs := slice_release (lowA_ad (valL T)) e0 l w3
    have HF := Lib.hid hfin
    obtain ⟨NL, hNL⟩ : ∃ NL, ls.length + 1 = NL := ⟨_, rfl⟩
    rw [hNL] at hap HF
    clear hR3 hb3 hg3 hfin HL hNL
    refine hK.out _ _ (by (try dsimp only); (try trivial)) (fun hHeld => ?_)
    clear hK K
    simp only [List.setIfInBounds_toArray, List.set_cons_zero, List.set_cons_succ]
    refine wpAnyH_take (i := 12) (oi := { dst := some 20, op := Op.build 74 #[(0, Operand.tmp 15), (1, Operand.tmp 17), (2, Operand.tmp 19)], type := 74, pos := "reader.go:87", after := #[{ on := 7, ground := Ground.data }, { on := 9, ground := Ground.data }, { on := 11, ground := Ground.data }], guard := none }) (v := .agg (rlC (lowA (valL T), e0, l))) rfl (by as_aux_lemma => kernel_rfl) (by as_aux_lemma => kernel_rfl) (by as_aux_lemma => kernel_rfl) (fun _ _ _ h => h) (yieldsIf_build (by rfl) 74 _ rfl #[(0, .agg (adC (lowA (valL T)))), (1, .int .u32 (e0 : Nat)), (2, .int .u64 (l : Nat))] (by simp only [List.map_toArray, List.map_cons, List.map_nil]; rfl) _ hbld) (by assumption) ?_
    simp only [Act.put, List.setIfInBounds_toArray, List.set_cons_zero, List.set_cons_succ]
    refine wpAnyH_ready (rs := [13]) (by as_aux_lemma => kernel_rfl) (by simp) ?_
    refine AllReadyH.cons (o := { dst := some 21, op := Op.buildSlice 25 1 #[(0, Operand.tmp 20)], type := 25, pos := "reader.go:87", after := #[{ on := 12, ground := Ground.data }], guard := none }) rfl (fun K hK => ?_) (by exact AllReadyH.nil)
    rw [if_pos (by rfl)]
    refine wp_bslice_run 25 1 _ rfl #[(0, .agg (rlC (lowA (valL T), e0, l)))] (by simp only [List.map_toArray, List.map_cons, List.map_nil]; rfl) hbs ?_
    refine hK.out _ _ (by (try dsimp only); (try trivial)) (fun hHeld => ?_)
    clear hK K
    simp only [List.setIfInBounds_toArray, List.set_cons_zero, List.set_cons_succ]
    refine wpAnyH_ready (rs := [14]) (by as_aux_lemma => kernel_rfl) (by simp) ?_
    refine AllReadyH.cons (o := { dst := some 22, op := Op.call { callee := Callee.builtin Builtin.append, args := #[Operand.tmp 13, Operand.tmp 21], argTypes := #[25, 25] }, type := 25, pos := "reader.go:87", after := #[{ on := 5, ground := Ground.data }, { on := 13, ground := Ground.data }, { on := 11, ground := Ground.chain }], guard := none }) rfl (fun K hK => ?_) (by exact AllReadyH.nil)
    rw [if_pos (by rfl)]
    refine wp_app_run (.tmp 13) (.tmp 21) 25 rfl rfl rfl hap ?_
    refine hK.out _ _ (by (try dsimp only); (try trivial)) (fun hHeld => ?_)
    clear hK K
    simp only [List.setIfInBounds_toArray, List.set_cons_zero, List.set_cons_succ]
    refine wpAnyH_take (i := 15) (oi := { dst := some 23, op := Op.nilCheck (Operand.tmp 8), type := 0, pos := "reader.go:87", after := #[{ on := 0, ground := Ground.data }, { on := 0, ground := Ground.phase }, { on := 1, ground := Ground.phase }, { on := 2, ground := Ground.phase }, { on := 3, ground := Ground.phase }, { on := 4, ground := Ground.phase }, { on := 5, ground := Ground.phase }, { on := 6, ground := Ground.phase }, { on := 7, ground := Ground.phase }, { on := 8, ground := Ground.phase }, { on := 9, ground := Ground.phase }, { on := 10, ground := Ground.phase }, { on := 11, ground := Ground.phase }, { on := 12, ground := Ground.phase }, { on := 13, ground := Ground.phase }, { on := 14, ground := Ground.phase }], guard := none }) (v := ?vq15) rfl (by as_aux_lemma => kernel_rfl) (by as_aux_lemma => kernel_rfl) (by as_aux_lemma => kernel_rfl) (fun _ _ _ h => h) (Or.inl ⟨by rfl, ?yq15⟩) (by assumption) ?rq15
    case yq15 => (intro w hSw; (try dsimp only at hSw); go_simp <;> with_reducible rfl)
    simp only [Act.put, List.setIfInBounds_toArray, List.set_cons_zero, List.set_cons_succ]
    refine wpAnyH_take (i := 16) (oi := { dst := some 24, op := Op.fieldAddr 141 (Operand.tmp 23) 2, type := 0, pos := "reader.go:87", after := #[{ on := 15, ground := Ground.data }, { on := 0, ground := Ground.phase }, { on := 1, ground := Ground.phase }, { on := 2, ground := Ground.phase }, { on := 3, ground := Ground.phase }, { on := 4, ground := Ground.phase }, { on := 5, ground := Ground.phase }, { on := 6, ground := Ground.phase }, { on := 7, ground := Ground.phase }, { on := 8, ground := Ground.phase }, { on := 9, ground := Ground.phase }, { on := 10, ground := Ground.phase }, { on := 11, ground := Ground.phase }, { on := 12, ground := Ground.phase }, { on := 13, ground := Ground.phase }, { on := 14, ground := Ground.phase }], guard := none }) (v := ?vq16) rfl (by as_aux_lemma => kernel_rfl) (by as_aux_lemma => kernel_rfl) (by as_aux_lemma => kernel_rfl) (fun _ _ _ h => h) (Or.inl ⟨by rfl, ?yq16⟩) (by assumption) ?rq16
    case yq16 => (intro w hSw; (try dsimp only at hSw); go_simp <;> with_reducible rfl)
    simp only [Act.put, List.setIfInBounds_toArray, List.set_cons_zero, List.set_cons_succ]
    refine wpAnyH_take (i := 17) (oi := { dst := some 25, op := Op.fieldAddr 27 (Operand.tmp 24) 2, type := 0, pos := "reader.go:87", after := #[{ on := 16, ground := Ground.data }, { on := 0, ground := Ground.phase }, { on := 1, ground := Ground.phase }, { on := 2, ground := Ground.phase }, { on := 3, ground := Ground.phase }, { on := 4, ground := Ground.phase }, { on := 5, ground := Ground.phase }, { on := 6, ground := Ground.phase }, { on := 7, ground := Ground.phase }, { on := 8, ground := Ground.phase }, { on := 9, ground := Ground.phase }, { on := 10, ground := Ground.phase }, { on := 11, ground := Ground.phase }, { on := 12, ground := Ground.phase }, { on := 13, ground := Ground.phase }, { on := 14, ground := Ground.phase }], guard := none }) (v := ?vq17) rfl (by as_aux_lemma => kernel_rfl) (by as_aux_lemma => kernel_rfl) (by as_aux_lemma => kernel_rfl) (fun _ _ _ h => h) (Or.inl ⟨by rfl, ?yq17⟩) (by assumption) ?rq17
    case yq17 => (intro w hSw; (try dsimp only at hSw); go_simp <;> with_reducible rfl)
    simp only [Act.put, List.setIfInBounds_toArray, List.set_cons_zero, List.set_cons_succ]
    refine wpAnyH_ready (rs := [18]) (by as_aux_lemma => kernel_rfl) (by simp) ?_
    refine AllReadyH.cons (o := { dst := none, op := Op.store 25 (Operand.tmp 25) (Operand.tmp 22), type := 0, pos := "reader.go:87", after := #[{ on := 17, ground := Ground.data }, { on := 14, ground := Ground.data }, { on := 14, ground := Ground.chain }, { on := 0, ground := Ground.phase }, { on := 1, ground := Ground.phase }, { on := 2, ground := Ground.phase }, { on := 3, ground := Ground.phase }, { on := 4, ground := Ground.phase }, { on := 5, ground := Ground.phase }, { on := 6, ground := Ground.phase }, { on := 7, ground := Ground.phase }, { on := 8, ground := Ground.phase }, { on := 9, ground := Ground.phase }, { on := 10, ground := Ground.phase }, { on := 11, ground := Ground.phase }, { on := 12, ground := Ground.phase }, { on := 13, ground := Ground.phase }, { on := 14, ground := Ground.phase }], guard := none }) rfl (fun K hK => ?_) (by exact AllReadyH.nil)
    rw [if_pos (by rfl)]
    go_simp
    refine hK.out _ _ (by (try dsimp only); (try trivial)) (fun hHeld => ?_)
    clear hK K
    simp only [List.setIfInBounds_toArray, List.set_cons_zero, List.set_cons_succ]
    refine wpAnyH_done (by as_aux_lemma => kernel_rfl) ?_ _
    clear hHeld
    go_wp2_with fail
    go_end0
    obtain ⟨v4, vc', g1, g2, g3, g4, g5, g6⟩ := HF.out
    have hs : WD.heap.size = w.heap.size := by rw [← HD.out.2]; rfl
    exact ⟨rfl, v4, vc', g1, g2, g3, g4.imp id (fun ⟨g, h1, h2⟩ => ⟨g, h1, by omega⟩), (show Below n₀ w WD by rw [← HD.out.2]; exact ⟨rfl, rfl, rfl, Nat.le_refl _, fun _ _ => rfl⟩).trans g5, (KeptM.grown HD.out.1 (fun _ e => by cases e)).trans g6⟩
  refine AllReadyH.cons (o := { dst := some 15, op := Op.call { callee := Callee.value (Operand.func 142), args := #[Operand.tmp 14], argTypes := #[147] }, type := 29, pos := "reader.go:87", after := #[{ on := 6, ground := Ground.data }], guard := none }) rfl (fun K hK => ?_) (by exact AllReadyH.nil)
  rw [if_pos (by rfl)]
  go_simp
  refine (raddr_ok R b k cs T v num df vl vc _ H0.out.1 H0.out.2.1 HK.out.1 HK.out.2.2.1 HK.out.2.2.2.1).mono ?_
  rintro e w1 ⟨rfl, v1, hR1, hb1, hg1⟩
  have cA : w1.cell? ⟨R, 4, none⟩ = some vc := cell_of_row w1 R 4 _ _ _ hR1
  have H1 := Lib.hid (And.intro hR1 (And.intro hb1 hg1))
  clear hR1 hb1 hg1
  refine hK.out _ _ (by (try dsimp only); (try trivial)) (fun hHeld => ?_)
  clear hK K
  simp only [List.setIfInBounds_toArray, List.set_cons_zero, List.set_cons_succ]
  refine wpAnyH_ready (rs := [5, 9]) (by as_aux_lemma => kernel_rfl) (by simp) ?_
  refine AllReadyH.cons (o := { dst := some 13, op := Op.load 25 (Operand.tmp 12), type := 25, pos := "reader.go:87", after := #[{ on := 4, ground := Ground.data }], guard := none }) rfl (fun K hK => ?_) ?_
  · rw [if_pos (by rfl)]
    go_simp
    refine hK.out _ _ (by (try dsimp only); (try trivial)) (fun hHeld => ?_)
    clear hK K
    simp only [List.setIfInBounds_toArray, List.set_cons_zero, List.set_cons_succ]
    refine wpAnyH_ready (rs := [9]) (by as_aux_lemma => kernel_rfl) (by simp) ?_
    refine AllReadyH.cons (o := { dst := some 17, op := Op.call { callee := Callee.value (Operand.func 143), args := #[Operand.tmp 16], argTypes := #[147] }, type := 30, pos := "reader.go:87", after := #[{ on := 8, ground := Ground.data }, { on := 7, ground := Ground.chain }], guard := none }) rfl (fun K hK => ?_) (by exact AllReadyH.nil)
    rw [if_pos (by rfl)]
    go_simp
    have HL0 := Lib.hid (entry_okT R b (k + 1) e0 cs ue v1 num df vl vc w1 H1.out.1 H1.out.2.1 HK.out.2.1 HK.out.2.2.2.2.2.2.2.2.1 HK.out.2.2.2.2.2.2.2.2.2.1 HK.out.2.2.2.2.2.2.2.2.2.2.1 (fun X hX => HK.out.2.2.2.2.2.2.2.2.2.2.2 X (grown_both (grown_both (grown_none HD.out.1) H1.out.2.2) hX)))
    refine (HL0.out).mono ?_
    rintro e w2 ⟨rfl, v2, hR2, hb2, hg2⟩
    have cB : w2.cell? ⟨R, 4, none⟩ = some vc := cell_of_row w2 R 4 _ _ _ hR2
    have H2 := Lib.hid (And.intro hR2 (And.intro hb2 (grown_both H1.out.2.2 hg2)))
    clear hR2 hb2 hg2 HL0
    refine hK.out _ _ (by (try dsimp only); (try trivial)) (fun hHeld => ?_)
    clear hK K
    simp only [List.setIfInBounds_toArray, List.set_cons_zero, List.set_cons_succ]
    refine wpAnyH_ready (rs := [11]) (by as_aux_lemma => kernel_rfl) (by simp) ?_
    refine AllReadyH.cons (o := { dst := some 19, op := Op.call { callee := Callee.value (Operand.func 141), args := #[Operand.tmp 18], argTypes := #[147] }, type := 23, pos := "reader.go:87", after := #[{ on := 10, ground := Ground.data }, { on := 9, ground := Ground.chain }], guard := none }) rfl (fun K hK => ?_) (by exact AllReadyH.nil)
    rw [if_pos (by rfl)]
    go_simp
    have HL := Lib.hid (label_ok R b (k + 2) cs u v2 num df vl vc w2 H2.out.1 H2.out.2.1 HK.out.2.2.2.2.2.2.2.1 HK.out.2.2.2.2.1 (fun X hX => H0.out.2.2.2 X (grown_both H2.out.2.2 hX)) HK.out.2.2.2.2.2.1)
    rw [HK.out.2.2.2.2.2.2.1] at HL
    refine (HL.out).mono ?_
    rintro e w3 ⟨rfl, v3, hR3, hb3, hg3⟩
    obtain ⟨gn, cn, w5, hap, cC, c5, f5, hfin⟩ := release_end R b (k + 3) e0 l n₀ cs T v3 num df vl vc ls WD w2 w3 hR3 hb3 H2.out.2.2 hg3 H0.out.2.2.1 HN.out
    have cD : w3.cell? ⟨R, 4, none⟩ = some vc := cell_of_row w3 R 4 _ _ _ hR3
    have hbs := slice_release (lowA_ad (valL T)) e0 l w3
    have HF := Lib.hid hfin
    obtain ⟨NL, hNL⟩ : ∃ NL, ls.length + 1 = NL := ⟨_, rfl⟩
    rw [hNL] at hap HF
    clear hR3 hb3 hg3 hfin HL hNL
    refine hK.out _ _ (by (try dsimp only); (try trivial)) (fun hHeld => ?_)
    clear hK K
    simp only [List.setIfInBounds_toArray, List.set_cons_zero, List.set_cons_succ]
    refine wpAnyH_take (i := 12) (oi := { dst := some 20, op := Op.build 74 #[(0, Operand.tmp 15), (1, Operand.tmp 17), (2, Operand.tmp 19)], type := 74, pos := "reader.go:87", after := #[{ on := 7, ground := Ground.data }, { on := 9, ground := Ground.data }, { on := 11, ground := Ground.data }], guard := none }) (v := .agg (rlC (lowA (valL T), e0, l))) rfl (by as_aux_lemma => kernel_rfl) (by as_aux_lemma => kernel_rfl) (by as_aux_lemma => kernel_rfl) (fun _ _ _ h => h) (yieldsIf_build (by rfl) 74 _ rfl #[(0, .agg (adC (lowA (valL T)))), (1, .int .u32 (e0 : Nat)), (2, .int .u64 (l : Nat))] (by simp only [List.map_toArray, List.map_cons, List.map_nil]; rfl) _ hbld) (by assumption) ?_
    simp only [Act.put, List.setIfInBounds_toArray, List.set_cons_zero, List.set_cons_succ]
    refine wpAnyH_ready (rs := [13]) (by as_aux_lemma => kernel_rfl) (by simp) ?_
    refine AllReadyH.cons (o := { dst := some 21, op := Op.buildSlice 25 1 #[(0, Operand.tmp 20)], type := 25, pos := "reader.go:87", after := #[{ on := 12, ground := Ground.data }], guard := none }) rfl (fun K hK => ?_) (by exact AllReadyH.nil)
    rw [if_pos (by rfl)]
    refine wp_bslice_run 25 1 _ rfl #[(0, .agg (rlC (lowA (valL T), e0, l)))] (by simp only [List.map_toArray, List.map_cons, List.map_nil]; rfl) hbs ?_
    refine hK.out _ _ (by (try dsimp only); (try trivial)) (fun hHeld => ?_)
    clear hK K
    simp only [List.setIfInBounds_toArray, List.set_cons_zero, List.set_cons_succ]
    refine wpAnyH_ready (rs := [14]) (by as_aux_lemma => kernel_rfl) (by simp) ?_
    refine AllReadyH.cons (o := { dst := some 22, op := Op.call { callee := Callee.builtin Builtin.append, args := #[Operand.tmp 13, Operand.tmp 21], argTypes := #[25, 25] }, type := 25, pos := "reader.go:87", after := #[{ on := 5, ground := Ground.data }, { on := 13, ground := Ground.data }, { on := 11, ground := Ground.chain }], guard := none }) rfl (fun K hK => ?_) (by exact AllReadyH.nil)
    rw [if_pos (by rfl)]
    refine wp_app_run (.tmp 13) (.tmp 21) 25 rfl rfl rfl hap ?_
    refine hK.out _ _ (by (try dsimp only); (try trivial)) (fun hHeld => ?_)
    clear hK K
    simp only [List.setIfInBounds_toArray, List.set_cons_zero, List.set_cons_succ]
    refine wpAnyH_take (i := 15) (oi := { dst := some 23, op := Op.nilCheck (Operand.tmp 8), type := 0, pos := "reader.go:87", after := #[{ on := 0, ground := Ground.data }, { on := 0, ground := Ground.phase }, { on := 1, ground := Ground.phase }, { on := 2, ground := Ground.phase }, { on := 3, ground := Ground.phase }, { on := 4, ground := Ground.phase }, { on := 5, ground := Ground.phase }, { on := 6, ground := Ground.phase }, { on := 7, ground := Ground.phase }, { on := 8, ground := Ground.phase }, { on := 9, ground := Ground.phase }, { on := 10, ground := Ground.phase }, { on := 11, ground := Ground.phase }, { on := 12, ground := Ground.phase }, { on := 13, ground := Ground.phase }, { on := 14, ground := Ground.phase }], guard := none }) (v := ?vq26) rfl (by as_aux_lemma => kernel_rfl) (by as_aux_lemma => kernel_rfl) (by as_aux_lemma => kernel_rfl) (fun _ _ _ h => h) (Or.inl ⟨by rfl, ?yq26⟩) (by assumption) ?rq26
    case yq26 => (intro w hSw; (try dsimp only at hSw); go_simp <;> with_reducible rfl)
    simp only [Act.put, List.setIfInBounds_toArray, List.set_cons_zero, List.set_cons_succ]
    refine wpAnyH_take (i := 16) (oi := { dst := some 24, op := Op.fieldAddr 141 (Operand.tmp 23) 2, type := 0, pos := "reader.go:87", after := #[{ on := 15, ground := Ground.data }, { on := 0, ground := Ground.phase }, { on := 1, ground := Ground.phase }, { on := 2, ground := Ground.phase }, { on := 3, ground := Ground.phase }, { on := 4, ground := Ground.phase }, { on := 5, ground := Ground.phase }, { on := 6, ground := Ground.phase }, { on := 7, ground := Ground.phase }, { on := 8, ground := Ground.phase }, { on := 9, ground := Ground.phase }, { on := 10, ground := Ground.phase }, { on := 11, ground := Ground.phase }, { on := 12, ground := Ground.phase }, { on := 13, ground := Ground.phase }, { on := 14, ground := Ground.phase }], guard := none }) (v := ?vq27) rfl (by as_aux_lemma => kernel_rfl) (by as_aux_lemma => kernel_rfl) (by as_aux_lemma => kernel_rfl) (fun _ _ _ h => h) (Or.inl ⟨by rfl, ?yq27⟩) (by assumption) ?rq27
    case yq27 => (intro w hSw; (try dsimp only at hSw); go_simp <;> with_reducible rfl)
    simp only [Act.put, List.setIfInBounds_toArray, List.set_cons_zero, List.set_cons_succ]
    refine wpAnyH_take (i := 17) (oi := { dst := some 25, op := Op.fieldAddr 27 (Operand.tmp 24) 2, type := 0, pos := "reader.go:87", after := #[{ on := 16, ground := Ground.data }, { on := 0, ground := Ground.phase }, { on := 1, ground := Ground.phase }, { on := 2, ground := Ground.phase }, { on := 3, ground := Ground.phase }, { on := 4, ground := Ground.phase }, { on := 5, ground := Ground.phase }, { on := 6, ground := Ground.phase }, { on := 7, ground := Ground.phase }, { on := 8, ground := Ground.phase }, { on := 9, ground := Ground.phase }, { on := 10, ground := Ground.phase }, { on := 11, ground := Ground.phase }, { on := 12, ground := Ground.phase }, { on := 13, ground := Ground.phase }, { on := 14, ground := Ground.phase }], guard := none }) (v := ?vq28) rfl (by as_aux_lemma => kernel_rfl) (by as_aux_lemma => kernel_rfl) (by as_aux_lemma => kernel_rfl) (fun _ _ _ h => h) (Or.inl ⟨by rfl, ?yq28⟩) (by assumption) ?rq28
    case yq28 => (intro w hSw; (try dsimp only at hSw); go_simp <;> with_reducible rfl)
    simp only [Act.put, List.setIfInBounds_toArray, List.set_cons_zero, List.set_cons_succ]
    refine wpAnyH_ready (rs := [18]) (by as_aux_lemma => kernel_rfl) (by simp) ?_
    refine AllReadyH.cons (o := { dst := none, op := Op.store 25 (Operand.tmp 25) (Operand.tmp 22), type := 0, pos := "reader.go:87", after := #[{ on := 17, ground := Ground.data }, { on := 14, ground := Ground.data }, { on := 14, ground := Ground.chain }, { on := 0, ground := Ground.phase }, { on := 1, ground := Ground.phase }, { on := 2, ground := Ground.phase }, { on := 3, ground := Ground.phase }, { on := 4, ground := Ground.phase }, { on := 5, ground := Ground.phase }, { on := 6, ground := Ground.phase }, { on := 7, ground := Ground.phase }, { on := 8, ground := Ground.phase }, { on := 9, ground := Ground.phase }, { on := 10, ground := Ground.phase }, { on := 11, ground := Ground.phase }, { on := 12, ground := Ground.phase }, { on := 13, ground := Ground.phase }, { on := 14, ground := Ground.phase }], guard := none }) rfl (fun K hK => ?_) (by exact AllReadyH.nil)
    rw [if_pos (by rfl)]
    go_simp
    refine hK.out _ _ (by (try dsimp only); (try trivial)) (fun hHeld => ?_)
    clear hK K
    simp only [List.setIfInBounds_toArray, List.set_cons_zero, List.set_cons_succ]
    refine wpAnyH_done (by as_aux_lemma => kernel_rfl) ?_ _
    clear hHeld
    go_wp2_with fail
    go_end0
    obtain ⟨v4, vc', g1, g2, g3, g4, g5, g6⟩ := HF.out
    have hs : WD.heap.size = w.heap.size := by rw [← HD.out.2]; rfl
    exact ⟨rfl, v4, vc', g1, g2, g3, g4.imp id (fun ⟨g, h1, h2⟩ => ⟨g, h1, by omega⟩), (show Below n₀ w WD by rw [← HD.out.2]; exact ⟨rfl, rfl, rfl, Nat.le_refl _, fun _ _ => rfl⟩).trans g5, (KeptM.grown HD.out.1 (fun _ e => by cases e)).trans g6⟩
  refine AllReadyH.cons (o := { dst := some 17, op := Op.call { callee := Callee.value (Operand.func 143), args := #[Operand.tmp 16], argTypes := #[147] }, type := 30, pos := "reader.go:87", after := #[{ on := 8, ground := Ground.data }, { on := 7, ground := Ground.chain }], guard := none }) rfl (fun K hK => ?_) (by exact AllReadyH.nil)
  rw [if_pos (by rfl)]
  go_simp
  have HL0 := Lib.hid (entry_okT R b (k + 1) e0 cs ue v1 num df vl vc w1 H1.out.1 H1.out.2.1 HK.out.2.1 HK.out.2.2.2.2.2.2.2.2.1 HK.out.2.2.2.2.2.2.2.2.2.1 HK.out.2.2.2.2.2.2.2.2.2.2.1 (fun X hX => HK.out.2.2.2.2.2.2.2.2.2.2.2 X (grown_both (grown_both (grown_none HD.out.1) H1.out.2.2) hX)))
  refine (HL0.out).mono ?_
  rintro e w2 ⟨rfl, v2, hR2, hb2, hg2⟩
  have cB : w2.cell? ⟨R, 4, none⟩ = some vc := cell_of_row w2 R 4 _ _ _ hR2
  have H2 := Lib.hid (And.intro hR2 (And.intro hb2 (grown_both H1.out.2.2 hg2)))
  clear hR2 hb2 hg2 HL0
  refine hK.out _ _ (by (try dsimp only); (try trivial)) (fun hHeld => ?_)
  clear hK K
  simp only [List.setIfInBounds_toArray, List.set_cons_zero, List.set_cons_succ]
  refine wpAnyH_ready (rs := [5, 11]) (by as_aux_lemma => kernel_rfl) (by simp) ?_
  refine AllReadyH.cons (o := { dst := some 13, op := Op.load 25 (Operand.tmp 12), type := 25, pos := "reader.go:87", after := #[{ on := 4, ground := Ground.data }], guard := none }) rfl (fun K hK => ?_) ?_
  · rw [if_pos (by rfl)]
    go_simp
    refine hK.out _ _ (by (try dsimp only); (try trivial)) (fun hHeld => ?_)
    clear hK K
    simp only [List.setIfInBounds_toArray, List.set_cons_zero, List.set_cons_succ]
    refine wpAnyH_ready (rs := [11]) (by as_aux_lemma => kernel_rfl) (by simp) ?_
    refine AllReadyH.cons (o := { dst := some 19, op := Op.call { callee := Callee.value (Operand.func 141), args := #[Operand.tmp 18], argTypes := #[147] }, type := 23, pos := "reader.go:87", after := #[{ on := 10, ground := Ground.data }, { on := 9, ground := Ground.chain }], guard := none }) rfl (fun K hK => ?_) (by exact AllReadyH.nil)
    rw [if_pos (by rfl)]
    go_simp
    have HL := Lib.hid (label_ok R b (k + 2) cs u v2 num df vl vc w2 H2.out.1 H2.out.2.1 HK.out.2.2.2.2.2.2.2.1 HK.out.2.2.2.2.1 (fun X hX => H0.out.2.2.2 X (grown_both H2.out.2.2 hX)) HK.out.2.2.2.2.2.1)
    rw [HK.out.2.2.2.2.2.2.1] at HL
    refine (HL.out).mono ?_
    rintro e w3 ⟨rfl, v3, hR3, hb3, hg3⟩
    obtain ⟨gn, cn, w5, hap, cC, c5, f5, hfin⟩ := release_end R b (k + 3) e0 l n₀ cs T v3 num df vl vc ls WD w2 w3 hR3 hb3 H2.out.2.2 hg3 H0.out.2.2.1 HN.out
    have cD : w3.cell? ⟨R, 4, none⟩ = some vc := cell_of_row w3 R 4 _ _ _ hR3
    have hbs := slice_release (lowA_ad (valL T)) e0 l w3
    have HF := Lib.hid hfin
    obtain ⟨NL, hNL⟩ : ∃ NL, ls.length + 1 = NL := ⟨_, rfl⟩
    rw [hNL] at hap HF
    clear hR3 hb3 hg3 hfin HL hNL
    refine hK.out _ _ (by (try dsimp only); (try trivial)) (fun hHeld => ?_)
    clear hK K
    simp only [List.setIfInBounds_toArray, List.set_cons_zero, List.set_cons_succ]
    refine wpAnyH_take (i := 12) (oi := { dst := some 20, op := Op.build 74 #[(0, Operand.tmp 15), (1, Operand.tmp 17), (2, Operand.tmp 19)], type := 74, pos := "reader.go:87", after := #[{ on := 7, ground := Ground.data }, { on := 9, ground := Ground.data }, { on := 11, ground := Ground.data }], guard := none }) (v := .agg (rlC (lowA (valL T), e0, l))) rfl (by as_aux_lemma => kernel_rfl) (by as_aux_lemma => kernel_rfl) (by as_aux_lemma => kernel_rfl) (fun _ _ _ h => h) (yieldsIf_build (by rfl) 74 _ rfl #[(0, .agg (adC (lowA (valL T)))), (1, .int .u32 (e0 : Nat)), (2, .int .u64 (l : Nat))] (by simp only [List.map_toArray, List.map_cons, List.map_nil]; rfl) _ hbld) (by assumption) ?_
    simp only [Act.put, List.setIfInBounds_toArray, List.set_cons_zero, List.set_cons_succ]
    refine wpAnyH_ready (rs := [13]) (by as_aux_lemma => kernel_rfl) (by simp) ?_
    refine AllReadyH.cons (o := { dst := some 21, op := Op.buildSlice 25 1 #[(0, Operand.tmp 20)], type := 25, pos := "reader.go:87", after := #[{ on := 12, ground := Ground.data }], guard := none }) rfl (fun K hK => ?_) (by exact AllReadyH.nil)
    rw [if_pos (by rfl)]
    refine wp_bslice_run 25 1 _ rfl #[(0, .agg (rlC (lowA (valL T), e0, l)))] (by simp only [List.map_toArray, List.map_cons, List.map_nil]; rfl) hbs ?_
    refine hK.out _ _ (by (try dsimp only); (try trivial)) (fun hHeld => ?_)
    clear hK K
    simp only [List.setIfInBounds_toArray, List.set_cons_zero, List.set_cons_succ]
    refine wpAnyH_ready (rs := [14]) (by as_aux_lemma => kernel_rfl) (by simp) ?_
    refine AllReadyH.cons (o := { dst := some 22, op := Op.call { callee := Callee.builtin Builtin.append, args := #[Operand.tmp 13, Operand.tmp 21], argTypes := #[25, 25] }, type := 25, pos := "reader.go:87", after := #[{ on := 5, ground := Ground.data }, { on := 13, ground := Ground.data }, { on := 11, ground := Ground.chain }], guard := none }) rfl (fun K hK => ?_) (by exact AllReadyH.nil)
    rw [if_pos (by rfl)]
    refine wp_app_run (.tmp 13) (.tmp 21) 25 rfl rfl rfl hap ?_
    refine hK.out _ _ (by (try dsimp only); (try trivial)) (fun hHeld => ?_)
    clear hK K
    simp only [List.setIfInBounds_toArray, List.set_cons_zero, List.set_cons_succ]
    refine wpAnyH_take (i := 15) (oi := { dst := some 23, op := Op.nilCheck (Operand.tmp 8), type := 0, pos := "reader.go:87", after := #[{ on := 0, ground := Ground.data }, { on := 0, ground := Ground.phase }, { on := 1, ground := Ground.phase }, { on := 2, ground := Ground.phase }, { on := 3, ground := Ground.phase }, { on := 4, ground := Ground.phase }, { on := 5, ground := Ground.phase }, { on := 6, ground := Ground.phase }, { on := 7, ground := Ground.phase }, { on := 8, ground := Ground.phase }, { on := 9, ground := Ground.phase }, { on := 10, ground := Ground.phase }, { on := 11, ground := Ground.phase }, { on := 12, ground := Ground.phase }, { on := 13, ground := Ground.phase }, { on := 14, ground := Ground.phase }], guard := none }) (v := ?vq36) rfl (by as_aux_lemma => kernel_rfl) (by as_aux_lemma => kernel_rfl) (by as_aux_lemma => kernel_rfl) (fun _ _ _ h => h) (Or.inl ⟨by rfl, ?yq36⟩) (by assumption) ?rq36
    case yq36 => (intro w hSw; (try dsimp only at hSw); go_simp <;> with_reducible rfl)
    simp only [Act.put, List.setIfInBounds_toArray, List.set_cons_zero, List.set_cons_succ]
    refine wpAnyH_take (i := 16) (oi := { dst := some 24, op := Op.fieldAddr 141 (Operand.tmp 23) 2, type := 0, pos := "reader.go:87", after := #[{ on := 15, ground := Ground.data }, { on := 0, ground := Ground.phase }, { on := 1, ground := Ground.phase }, { on := 2, ground := Ground.phase }, { on := 3, ground := Ground.phase }, { on := 4, ground := Ground.phase }, { on := 5, ground := Ground.phase }, { on := 6, ground := Ground.phase }, { on := 7, ground := Ground.phase }, { on := 8, ground := Ground.phase }, { on := 9, ground := Ground.phase }, { on := 10, ground := Ground.phase }, { on := 11, ground := Ground.phase }, { on := 12, ground := Ground.phase }, { on := 13, ground := Ground.phase }, { on := 14, ground := Ground.phase }], guard := none }) (v := ?vq37) rfl (by as_aux_lemma => kernel_rfl) (by as_aux_lemma => kernel_rfl) (by as_aux_lemma => kernel_rfl) (fun _ _ _ h => h) (Or.inl ⟨by rfl, ?yq37⟩) (by assumption) ?rq37
    case yq37 => (intro w hSw; (try dsimp only at hSw); go_simp <;> with_reducible rfl)
    simp only [Act.put, List.setIfInBounds_toArray, List.set_cons_zero, List.set_cons_succ]
    refine wpAnyH_take (i := 17) (oi := { dst := some 25, op := Op.fieldAddr 27 (Operand.tmp 24) 2, type := 0, pos := "reader.go:87", after := #[{ on := 16, ground := Ground.data }, { on := 0, ground := Ground.phase }, { on := 1, ground := Ground.phase }, { on := 2, ground := Ground.phase }, { on := 3, ground := Ground.phase }, { on := 4, ground := Ground.phase }, { on := 5, ground := Ground.phase }, { on := 6, ground := Ground.phase }, { on := 7, ground := Ground.phase }, { on := 8, ground := Ground.phase }, { on := 9, ground := Ground.phase }, { on := 10, ground := Ground.phase }, { on := 11, ground := Ground.phase }, { on := 12, ground := Ground.phase }, { on := 13, ground := Ground.phase }, { on := 14, ground := Ground.phase }], guard := none }) (v := ?vq38) rfl (by as_aux_lemma => kernel_rfl) (by as_aux_lemma => kernel_rfl) (by as_aux_lemma => kernel_rfl) (fun _ _ _ h => h) (Or.inl ⟨by rfl, ?yq38⟩) (by assumption) ?rq38
    case yq38 => (intro w hSw; (try dsimp only at hSw); go_simp <;> with_reducible rfl)
    simp only [Act.put, List.setIfInBounds_toArray, List.set_cons_zero, List.set_cons_succ]
    refine wpAnyH_ready (rs := [18]) (by as_aux_lemma => kernel_rfl) (by simp) ?_
    refine AllReadyH.cons (o := { dst := none, op := Op.store 25 (Operand.tmp 25) (Operand.tmp 22), type := 0, pos := "reader.go:87", after := #[{ on := 17, ground := Ground.data }, { on := 14, ground := Ground.data }, { on := 14, ground := Ground.chain }, { on := 0, ground := Ground.phase }, { on := 1, ground := Ground.phase }, { on := 2, ground := Ground.phase }, { on := 3, ground := Ground.phase }, { on := 4, ground := Ground.phase }, { on := 5, ground := Ground.phase }, { on := 6, ground := Ground.phase }, { on := 7, ground := Ground.phase }, { on := 8, ground := Ground.phase }, { on := 9, ground := Ground.phase }, { on := 10, ground := Ground.phase }, { on := 11, ground := Ground.phase }, { on := 12, ground := Ground.phase }, { on := 13, ground := Ground.phase }, { on := 14, ground := Ground.phase }], guard := none }) rfl (fun K hK => ?_) (by exact AllReadyH.nil)
    rw [if_pos (by rfl)]
    go_simp
    refine hK.out _ _ (by (try dsimp only); (try trivial)) (fun hHeld => ?_)
    clear hK K
    simp only [List.setIfInBounds_toArray, List.set_cons_zero, List.set_cons_succ]
    refine wpAnyH_done (by as_aux_lemma => kernel_rfl) ?_ _
    clear hHeld
    go_wp2_with fail
    go_end0
    obtain ⟨v4, vc', g1, g2, g3, g4, g5, g6⟩ := HF.out
    have hs : WD.heap.size = w.heap.size := by rw [← HD.out.2]; rfl
    exact ⟨rfl, v4, vc', g1, g2, g3, g4.imp id (fun ⟨g, h1, h2⟩ => ⟨g, h1, by omega⟩), (show Below n₀ w WD by rw [← HD.out.2]; exact ⟨rfl, rfl, rfl, Nat.le_refl _, fun _ _ => rfl⟩).trans g5, (KeptM.grown HD.out.1 (fun _ e => by cases e)).trans g6⟩
  refine AllReadyH.cons (o := { dst := some 19, op := Op.call { callee := Callee.value (Operand.func 141), args := #[Operand.tmp 18], argTypes := #[147] }, type := 23, pos := "reader.go:87", after := #[{ on := 10, ground := Ground.data }, { on := 9, ground := Ground.chain }], guard := none }) rfl (fun K hK => ?_) (by exact AllReadyH.nil)
  rw [if_pos (by rfl)]
  go_simp
  have HL := Lib.hid (label_ok R b (k + 2) cs u v2 num df vl vc w2 H2.out.1 H2.out.2.1 HK.out.2.2.2.2.2.2.2.1 HK.out.2.2.2.2.1 (fun X hX => H0.out.2.2.2 X (grown_both H2.out.2.2 hX)) HK.out.2.2.2.2.2.1)
  rw [HK.out.2.2.2.2.2.2.1] at HL
  refine (HL.out).mono ?_
  rintro e w3 ⟨rfl, v3, hR3, hb3, hg3⟩
  obtain ⟨gn, cn, w5, hap, cC, c5, f5, hfin⟩ := release_end R b (k + 3) e0 l n₀ cs T v3 num df vl vc ls WD w2 w3 hR3 hb3 H2.out.2.2 hg3 H0.out.2.2.1 HN.out
  have cD : w3.cell? ⟨R, 4, none⟩ = some vc := cell_of_row w3 R 4 _ _ _ hR3
  have hbs := slice_release (lowA_ad (valL T)) e0 l w3
  have HF := Lib.hid hfin
  obtain ⟨NL, hNL⟩ : ∃ NL, ls.length + 1 = NL := ⟨_, rfl⟩
  rw [hNL] at hap HF
  clear hR3 hb3 hg3 hfin HL hNL
  refine hK.out _ _ (by (try dsimp only); (try trivial)) (fun hHeld => ?_)
  clear hK K
  simp only [List.setIfInBounds_toArray, List.set_cons_zero, List.set_cons_succ]
  refine wpAnyH_take (i := 12) (oi := { dst := some 20, op := Op.build 74 #[(0, Operand.tmp 15), (1, Operand.tmp 17), (2, Operand.tmp 19)], type := 74, pos := "reader.go:87", after := #[{ on := 7, ground := Ground.data }, { on := 9, ground := Ground.data }, { on := 11, ground := Ground.data }], guard := none }) (v := .agg (rlC (lowA (valL T), e0, l))) rfl (by as_aux_lemma => kernel_rfl) (by as_aux_lemma => kernel_rfl) (by as_aux_lemma => kernel_rfl) (fun _ _ _ h => h) (yieldsIf_build (by rfl) 74 _ rfl #[(0, .agg (adC (lowA (valL T)))), (1, .int .u32 (e0 : Nat)), (2, .int .u64 (l : Nat))] (by simp only [List.map_toArray, List.map_cons, List.map_nil]; rfl) _ hbld) (by assumption) ?_
  simp only [Act.put, List.setIfInBounds_toArray, List.set_cons_zero, List.set_cons_succ]
  refine wpAnyH_ready (rs := [5, 13]) (by as_aux_lemma => kernel_rfl) (by simp) ?_
  refine AllReadyH.cons (o := { dst := some 13, op := Op.load 25 (Operand.tmp 12), type := 25, pos := "reader.go:87", after := #[{ on := 4, ground := Ground.data }], guard := none }) rfl (fun K hK => ?_) ?_
  · rw [if_pos (by rfl)]
    go_simp
    refine hK.out _ _ (by (try dsimp only); (try trivial)) (fun hHeld => ?_)
    clear hK K
    simp only [List.setIfInBounds_toArray, List.set_cons_zero, List.set_cons_succ]
    refine wpAnyH_ready (rs := [13]) (by as_aux_lemma => kernel_rfl) (by simp) ?_
    refine AllReadyH.cons (o := { dst := some 21, op := Op.buildSlice 25 1 #[(0, Operand.tmp 20)], type := 25, pos := "reader.go:87", after := #[{ on := 12, ground := Ground.data }], guard := none }) rfl (fun K hK => ?_) (by exact AllReadyH.nil)
    rw [if_pos (by rfl)]
    refine wp_bslice_run 25 1 _ rfl #[(0, .agg (rlC (lowA (valL T), e0, l)))] (by simp only [List.map_toArray, List.map_cons, List.map_nil]; rfl) hbs ?_
    refine hK.out _ _ (by (try dsimp only); (try trivial)) (fun hHeld => ?_)
    clear hK K
    simp only [List.setIfInBounds_toArray, List.set_cons_zero, List.set_cons_succ]
    refine wpAnyH_ready (rs := [14]) (by as_aux_lemma => kernel_rfl) (by simp) ?_
    refine AllReadyH.cons (o := { dst := some 22, op := Op.call { callee := Callee.builtin Builtin.append, args := #[Operand.tmp 13, Operand.tmp 21], argTypes := #[25, 25] }, type := 25, pos := "reader.go:87", after := #[{ on := 5, ground := Ground.data }, { on := 13, ground := Ground.data }, { on := 11, ground := Ground.chain }], guard := none }) rfl (fun K hK => ?_) (by exact AllReadyH.nil)
    rw [if_pos (by rfl)]
    refine wp_app_run (.tmp 13) (.tmp 21) 25 rfl rfl rfl hap ?_
    refine hK.out _ _ (by (try dsimp only); (try trivial)) (fun hHeld => ?_)
    clear hK K
    simp only [List.setIfInBounds_toArray, List.set_cons_zero, List.set_cons_succ]
    refine wpAnyH_take (i := 15) (oi := { dst := some 23, op := Op.nilCheck (Operand.tmp 8), type := 0, pos := "reader.go:87", after := #[{ on := 0, ground := Ground.data }, { on := 0, ground := Ground.phase }, { on := 1, ground := Ground.phase }, { on := 2, ground := Ground.phase }, { on := 3, ground := Ground.phase }, { on := 4, ground := Ground.phase }, { on := 5, ground := Ground.phase }, { on := 6, ground := Ground.phase }, { on := 7, ground := Ground.phase }, { on := 8, ground := Ground.phase }, { on := 9, ground := Ground.phase }, { on := 10, ground := Ground.phase }, { on := 11, ground := Ground.phase }, { on := 12, ground := Ground.phase }, { on := 13, ground := Ground.phase }, { on := 14, ground := Ground.phase }], guard := none }) (v := ?vq45) rfl (by as_aux_lemma => kernel_rfl) (by as_aux_lemma => kernel_rfl) (by as_aux_lemma => kernel_rfl) (fun _ _ _ h => h) (Or.inl ⟨by rfl, ?yq45⟩) (by assumption) ?rq45
    case yq45 => (intro w hSw; (try dsimp only at hSw); go_simp <;> with_reducible rfl)
    simp only [Act.put, List.setIfInBounds_toArray, List.set_cons_zero, List.set_cons_succ]
    refine wpAnyH_take (i := 16) (oi := { dst := some 24, op := Op.fieldAddr 141 (Operand.tmp 23) 2, type := 0, pos := "reader.go:87", after := #[{ on := 15, ground := Ground.data }, { on := 0, ground := Ground.phase }, { on := 1, ground := Ground.phase }, { on := 2, ground := Ground.phase }, { on := 3, ground := Ground.phase }, { on := 4, ground := Ground.phase }, { on := 5, ground := Ground.phase }, { on := 6, ground := Ground.phase }, { on := 7, ground := Ground.phase }, { on := 8, ground := Ground.phase }, { on := 9, ground := Ground.phase }, { on := 10, ground := Ground.phase }, { on := 11, ground := Ground.phase }, { on := 12, ground := Ground.phase }, { on := 13, ground := Ground.phase }, { on := 14, ground := Ground.phase }], guard := none }) (v := ?vq46) rfl (by as_aux_lemma => kernel_rfl) (by as_aux_lemma => kernel_rfl) (by as_aux_lemma => kernel_rfl) (fun _ _ _ h => h) (Or.inl ⟨by rfl, ?yq46⟩) (by assumption) ?rq46
    case yq46 => (intro w hSw; (try dsimp only at hSw); go_simp <;> with_reducible rfl)
    simp only [Act.put, List.setIfInBounds_toArray, List.set_cons_zero, List.set_cons_succ]
    refine wpAnyH_take (i := 17) (oi := { dst := some 25, op := Op.fieldAddr 27 (Operand.tmp 24) 2, type := 0, pos := "reader.go:87", after := #[{ on := 16, ground := Ground.data }, { on := 0, ground := Ground.phase }, { on := 1, ground := Ground.phase }, { on := 2, ground := Ground.phase }, { on := 3, ground := Ground.phase }, { on := 4, ground := Ground.phase }, { on := 5, ground := Ground.phase }, { on := 6, ground := Ground.phase }, { on := 7, ground := Ground.phase }, { on := 8, ground := Ground.phase }, { on := 9, ground := Ground.phase }, { on := 10, ground := Ground.phase }, { on := 11, ground := Ground.phase }, { on := 12, ground := Ground.phase }, { on := 13, ground := Ground.phase }, { on := 14, ground := Ground.phase }], guard := none }) (v := ?vq47) rfl (by as_aux_lemma => kernel_rfl) (by as_aux_lemma => kernel_rfl) (by as_aux_lemma => kernel_rfl) (fun _ _ _ h => h) (Or.inl ⟨by rfl, ?yq47⟩) (by assumption) ?rq47
    case yq47 => (intro w hSw; (try dsimp only at hSw); go_simp <;> with_reducible rfl)
    simp only [Act.put, List.setIfInBounds_toArray, List.set_cons_zero, List.set_cons_succ]
    refine wpAnyH_ready (rs := [18]) (by as_aux_lemma => kernel_rfl) (by simp) ?_
    refine AllReadyH.cons (o := { dst := none, op := Op.store 25 (Operand.tmp 25) (Operand.tmp 22), type := 0, pos := "reader.go:87", after := #[{ on := 17, ground := Ground.data }, { on := 14, ground := Ground.data }, { on := 14, ground := Ground.chain }, { on := 0, ground := Ground.phase }, { on := 1, ground := Ground.phase }, { on := 2, ground := Ground.phase }, { on := 3, ground := Ground.phase }, { on := 4, ground := Ground.phase }, { on := 5, ground := Ground.phase }, { on := 6, ground := Ground.phase }, { on := 7, ground := Ground.phase }, { on := 8, ground := Ground.phase }, { on := 9, ground := Ground.phase }, { on := 10, ground := Ground.phase }, { on := 11, ground := Ground.phase }, { on := 12, ground := Ground.phase }, { on := 13, ground := Ground.phase }, { on := 14, ground := Ground.phase }], guard := none }) rfl (fun K hK => ?_) (by exact AllReadyH.nil)
    rw [if_pos (by rfl)]
    go_simp
    refine hK.out _ _ (by (try dsimp only); (try trivial)) (fun hHeld => ?_)
    clear hK K
    simp only [List.setIfInBounds_toArray, List.set_cons_zero, List.set_cons_succ]
    refine wpAnyH_done (by as_aux_lemma => kernel_rfl) ?_ _
    clear hHeld
    go_wp2_with fail
    go_end0
    obtain ⟨v4, vc', g1, g2, g3, g4, g5, g6⟩ := HF.out
    have hs : WD.heap.size = w.heap.size := by rw [← HD.out.2]; rfl
    exact ⟨rfl, v4, vc', g1, g2, g3, g4.imp id (fun ⟨g, h1, h2⟩ => ⟨g, h1, by omega⟩), (show Below n₀ w WD by rw [← HD.out.2]; exact ⟨rfl, rfl, rfl, Nat.le_refl _, fun _ _ => rfl⟩).trans g5, (KeptM.grown HD.out.1 (fun _ e => by cases e)).trans g6⟩
  refine AllReadyH.cons (o := { dst := some 21, op := Op.buildSlice 25 1 #[(0, Operand.tmp 20)], type := 25, pos := "reader.go:87", after := #[{ on := 12, ground := Ground.data }], guard := none }) rfl (fun K hK => ?_) (by exact AllReadyH.nil)
  rw [if_pos (by rfl)]
  refine wp_bslice_run 25 1 _ rfl #[(0, .agg (rlC (lowA (valL T), e0, l)))] (by simp only [List.map_toArray, List.map_cons, List.map_nil]; rfl) hbs ?_
  refine hK.out _ _ (by (try dsimp only); (try trivial)) (fun hHeld => ?_)
  clear hK K
  simp only [List.setIfInBounds_toArray, List.set_cons_zero, List.set_cons_succ]
  refine wpAnyH_ready (rs := [5]) (by as_aux_lemma => kernel_rfl) (by simp) ?_
  refine AllReadyH.cons (o := { dst := some 13, op := Op.load 25 (Operand.tmp 12), type := 25, pos := "reader.go:87", after := #[{ on := 4, ground := Ground.data }], guard := none }) rfl (fun K hK => ?_) (by exact AllReadyH.nil)
  rw [if_pos (by rfl)]
  go_simp
  refine hK.out _ _ (by (try dsimp only); (try trivial)) (fun hHeld => ?_)
  clear hK K
  simp only [List.setIfInBounds_toArray, List.set_cons_zero, List.set_cons_succ]
  refine wpAnyH_ready (rs := [14]) (by as_aux_lemma => kernel_rfl) (by simp) ?_
  refine AllReadyH.cons (o := { dst := some 22, op := Op.call { callee := Callee.builtin Builtin.append, args := #[Operand.tmp 13, Operand.tmp 21], argTypes := #[25, 25] }, type := 25, pos := "reader.go:87", after := #[{ on := 5, ground := Ground.data }, { on := 13, ground := Ground.data }, { on := 11, ground := Ground.chain }], guard := none }) rfl (fun K hK => ?_) (by exact AllReadyH.nil)
  rw [if_pos (by rfl)]
  refine wp_app_run (.tmp 13) (.tmp 21) 25 rfl rfl rfl hap ?_
  refine hK.out _ _ (by (try dsimp only); (try trivial)) (fun hHeld => ?_)
  clear hK K
  simp only [List.setIfInBounds_toArray, List.set_cons_zero, List.set_cons_succ]
  refine wpAnyH_take (i := 15) (oi := { dst := some 23, op := Op.nilCheck (Operand.tmp 8), type := 0, pos := "reader.go:87", after := #[{ on := 0, ground := Ground.data }, { on := 0, ground := Ground.phase }, { on := 1, ground := Ground.phase }, { on := 2, ground := Ground.phase }, { on := 3, ground := Ground.phase }, { on := 4, ground := Ground.phase }, { on := 5, ground := Ground.phase }, { on := 6, ground := Ground.phase }, { on := 7, ground := Ground.phase }, { on := 8, ground := Ground.phase }, { on := 9, ground := Ground.phase }, { on := 10, ground := Ground.phase }, { on := 11, ground := Ground.phase }, { on := 12, ground := Ground.phase }, { on := 13, ground := Ground.phase }, { on := 14, ground := Ground.phase }], guard := none }) (v := ?vq52) rfl (by as_aux_lemma => kernel_rfl) (by as_aux_lemma => kernel_rfl) (by as_aux_lemma => kernel_rfl) (fun _ _ _ h => h) (Or.inl ⟨by rfl, ?yq52⟩) (by assumption) ?rq52
  case yq52 => (intro w hSw; (try dsimp only at hSw); go_simp <;> with_reducible rfl)
  simp only [Act.put, List.setIfInBounds_toArray, List.set_cons_zero, List.set_cons_succ]
  refine wpAnyH_take (i := 16) (oi := { dst := some 24, op := Op.fieldAddr 141 (Operand.tmp 23) 2, type := 0, pos := "reader.go:87", after := #[{ on := 15, ground := Ground.data }, { on := 0, ground := Ground.phase }, { on := 1, ground := Ground.phase }, { on := 2, ground := Ground.phase }, { on := 3, ground := Ground.phase }, { on := 4, ground := Ground.phase }, { on := 5, ground := Ground.phase }, { on := 6, ground := Ground.phase }, { on := 7, ground := Ground.phase }, { on := 8, ground := Ground.phase }, { on := 9, ground := Ground.phase }, { on := 10, ground := Ground.phase }, { on := 11, ground := Ground.phase }, { on := 12, ground := Ground.phase }, { on := 13, ground := Ground.phase }, { on := 14, ground := Ground.phase }], guard := none }) (v := ?vq53) rfl (by as_aux_lemma => kernel_rfl) (by as_aux_lemma => kernel_rfl) (by as_aux_lemma => kernel_rfl) (fun _ _ _ h => h) (Or.inl ⟨by rfl, ?yq53⟩) (by assumption) ?rq53
  case yq53 => (intro w hSw; (try dsimp only at hSw); go_simp <;> with_reducible rfl)
  simp only [Act.put, List.setIfInBounds_toArray, List.set_cons_zero, List.set_cons_succ]
  refine wpAnyH_take (i := 17) (oi := { dst := some 25, op := Op.fieldAddr 27 (Operand.tmp 24) 2, type := 0, pos := "reader.go:87", after := #[{ on := 16, ground := Ground.data }, { on := 0, ground := Ground.phase }, { on := 1, ground := Ground.phase }, { on := 2, ground := Ground.phase }, { on := 3, ground := Ground.phase }, { on := 4, ground := Ground.phase }, { on := 5, ground := Ground.phase }, { on := 6, ground := Ground.phase }, { on := 7, ground := Ground.phase }, { on := 8, ground := Ground.phase }, { on := 9, ground := Ground.phase }, { on := 10, ground := Ground.phase }, { on := 11, ground := Ground.phase }, { on := 12, ground := Ground.phase }, { on := 13, ground := Ground.phase }, { on := 14, ground := Ground.phase }], guard := none }) (v := ?vq54) rfl (by as_aux_lemma => kernel_rfl) (by as_aux_lemma => kernel_rfl) (by as_aux_lemma => kernel_rfl) (fun _ _ _ h => h) (Or.inl ⟨by rfl, ?yq54⟩) (by assumption) ?rq54
  case yq54 => (intro w hSw; (try dsimp only at hSw); go_simp <;> with_reducible rfl)
  simp only [Act.put, List.setIfInBounds_toArray, List.set_cons_zero, List.set_cons_succ]
  refine wpAnyH_ready (rs := [18]) (by as_aux_lemma => kernel_rfl) (by simp) ?_
  refine AllReadyH.cons (o := { dst := none, op := Op.store 25 (Operand.tmp 25) (Operand.tmp 22), type := 0, pos := "reader.go:87", after := #[{ on := 17, ground := Ground.data }, { on := 14, ground := Ground.data }, { on := 14, ground := Ground.chain }, { on := 0, ground := Ground.phase }, { on := 1, ground := Ground.phase }, { on := 2, ground := Ground.phase }, { on := 3, ground := Ground.phase }, { on := 4, ground := Ground.phase }, { on := 5, ground := Ground.phase }, { on := 6, ground := Ground.phase }, { on := 7, ground := Ground.phase }, { on := 8, ground := Ground.phase }, { on := 9, ground := Ground.phase }, { on := 10, ground := Ground.phase }, { on := 11, ground := Ground.phase }, { on := 12, ground := Ground.phase }, { on := 13, ground := Ground.phase }, { on := 14, ground := Ground.phase }], guard := none }) rfl (fun K hK => ?_) (by exact AllReadyH.nil)
  rw [if_pos (by rfl)]
  go_simp
  refine hK.out _ _ (by (try dsimp only); (try trivial)) (fun hHeld => ?_)
  clear hK K
  simp only [List.setIfInBounds_toArray, List.set_cons_zero, List.set_cons_succ]
  refine wpAnyH_done (by as_aux_lemma => kernel_rfl) ?_ _
  clear hHeld
  go_wp2_with fail
  go_end0
  obtain ⟨v4, vc', g1, g2, g3, g4, g5, g6⟩ := HF.out
  have hs : WD.heap.size = w.heap.size := by rw [← HD.out.2]; rfl
  exact ⟨rfl, v4, vc', g1, g2, g3, g4.imp id (fun ⟨g, h1, h2⟩ => ⟨g, h1, by omega⟩), (show Below n₀ w WD by rw [← HD.out.2]; exact ⟨rfl, rfl, rfl, Nat.le_refl _, fun _ _ => rfl⟩).trans g5, (KeptM.grown HD.out.1 (fun _ e => by cases e)).trans g6⟩
/-- What a line does. -/
inductive StepOkT : Nat → ByteArray → St → St → Prop
  | dflt (x u : ByteArray) (df : Nat) (ls : List (List Nat × Nat)) (rs : List (List Nat × Nat × Nat)) : pcs 32 x = [sDef, u] → u.size ≤ 400 → labE u.data.toList = 0 → StepOkT 0 x ⟨df, ls, rs⟩ ⟨labV u.data.toList, ls, rs⟩
  | clear (i : Nat) (x : ByteArray) (T : List UInt8) (u : ByteArray) (df : Nat) (ls : List (List Nat × Nat)) : 0 < i → pcs 32 x = [sClr, ⟨(48 :: 120 :: T).toArray⟩, u] → T.length = 40 → (∀ y ∈ T, dv y < 16) → u.size ≤ 400 → labE u.data.toList = 0 → StepOkT i x ⟨df, ls, []⟩ ⟨df, ls ++ [(lowA (valL T), labV u.data.toList)], []⟩
  | release (i : Nat) (x : ByteArray) (T : List UInt8) (ue u : ByteArray) (e0 df : Nat) (ls : List (List Nat × Nat)) (rs : List (List Nat × Nat × Nat)) : 0 < i → pcs 32 x = [sRel, ⟨(48 :: 120 :: T).toArray⟩, ue, u] → T.length = 40 → (∀ y ∈ T, dv y < 16) → ue.size ≤ 400 → e0 < 4294967296 → Lib.parseUintB 32 ue.data.toList = .ok e0 →
      (∀ X, T10 X → Calls Tryz.prog 51 #[.int .u32 (e0 : Nat)] X fun e w' => e = .returned (.string ue) ∧ Below X.heap.size X w') → u.size ≤ 400 → labE u.data.toList = 0 → StepOkT i x ⟨df, ls, rs⟩ ⟨df, ls, rs ++ [(lowA (valL T), e0, labV u.data.toList)]⟩
theorem step_invT {i : Nat} {x : ByteArray} {df : Nat} {ls : List (List Nat × Nat)} {rs : List (List Nat × Nat × Nat)} {st2 : St} (h : StepOkT i x ⟨df, ls, rs⟩ st2) :
    (∃ u, i = 0 ∧ pcs 32 x = [sDef, u] ∧ u.size ≤ 400 ∧ labE u.data.toList = 0 ∧ st2 = ⟨labV u.data.toList, ls, rs⟩) ∨
    (∃ T u, 0 < i ∧ rs = [] ∧ pcs 32 x = [sClr, ⟨(48 :: 120 :: T).toArray⟩, u] ∧ T.length = 40 ∧ (∀ y ∈ T, dv y < 16) ∧ u.size ≤ 400 ∧ labE u.data.toList = 0 ∧ st2 = ⟨df, ls ++ [(lowA (valL T), labV u.data.toList)], []⟩) ∨
    (∃ T ue u e0, 0 < i ∧ pcs 32 x = [sRel, ⟨(48 :: 120 :: T).toArray⟩, ue, u] ∧ T.length = 40 ∧ (∀ y ∈ T, dv y < 16) ∧ ue.size ≤ 400 ∧ e0 < 4294967296 ∧ Lib.parseUintB 32 ue.data.toList = .ok e0 ∧
      (∀ X, T10 X → Calls Tryz.prog 51 #[.int .u32 (e0 : Nat)] X fun e w' => e = .returned (.string ue) ∧ Below X.heap.size X w') ∧ u.size ≤ 400 ∧ labE u.data.toList = 0 ∧ st2 = ⟨df, ls, rs ++ [(lowA (valL T), e0, labV u.data.toList)]⟩) := by
  cases h with
  | dflt x u df ls rs h1 h2 h3 => exact .inl ⟨u, rfl, h1, h2, h3, rfl⟩
  | clear i x T u df ls h1 h2 h3 h4 h5 h6 => exact .inr (.inl ⟨T, u, h1, rfl, h2, h3, h4, h5, h6, rfl⟩)
  | release i x T ue u e0 df ls rs h1 h2 h3 h4 h5 h6 h7 h8 h9 h10 => exact .inr (.inr ⟨T, ue, u, e0, h1, h2, h3, h4, h5, h6, h7, h8, h9, h10, rfl⟩)
attribute [local go_sem] Oper.semAt_some
set_option maxRecDepth 100000 in
set_option maxHeartbeats 8000000 in
theorem read_okT (s : ByteArray) (lines : ByteArray) (sts : Nat → St) (w : World) (hls : lines.size ≤ 100000) (hcut : ∀ X, Calls Tryz.prog 91 #[.string s, .string ⟨#[10]⟩] X fun e w' => e = .returned (.tuple #[.string lines, .bool true]) ∧ w' = X)
    (h0 : sts 0 = ⟨0, [], []⟩) (hS : ∀ i x, (pcs 10 lines)[i]? = some x → x.size ≤ 100000 ∧ StepOkT i x (sts i) (sts (i + 1)) ∧ (sts i).ls.length ≤ 100000 ∧ (sts i).rs.length ≤ 100000) (hT : TZ w) (hTS : ∀ w', Below w.heap.size w w' → TZ w') (h10 : ∀ w', Below w.heap.size w w' → T10 w') :
    Calls Tryz.prog 57 #[.string s] w fun e w' => ∃ vc vr, e = .returned (.tuple #[.agg #[.int .u64 ((sts (pcs 10 lines).length).df : Nat), vc, vr], .int .i64 0]) ∧ OwC w' w.heap.size vc (sts (pcs 10 lines).length).ls ∧ OwR w' w.heap.size vr (sts (pcs 10 lines).length).rs ∧ Below w.heap.size w w' := by
  have hmf : ∀ (fn : Fn) (first cap : Array Value) (w : World), (Instr.makeFunc fn first cap).run Tryz.prog w = .ok (.func fn first cap) w := fun _ _ _ _ => rfl
  refine (callsIn_wide (n := 20)).1 ?_
  refine callsIn_of_wp_marks Tryz.func57 rfl trivial ?_ rfl
  simp only [Tryz.ntmps57, List.size_toArray, List.length_cons, List.length_nil, Nat.reduceAdd, Nat.reduceSub, Array.replicate_succ, Array.replicate_zero, List.push_toArray, List.append_toArray, List.nil_append, List.cons_append]
  have HC := Lib.hid hcut
  have HS := Lib.hid hS
  have HT := Lib.hid (And.intro hT hTS)
  have HT10 := Lib.hid h10
  clear hcut hS hT hTS h10
  gi_wp2_with fail
  have hW0 := balloc (balloc (balloc (Below.refl w.heap.size w) (.cells #[.int .u64 0, .slice none 0 0, .slice none 0 0] 27)) (.cells #[.int .i64 0] 36)) (.cells #[.slice none 0 0, .int .i64 0, .int .u64 0, .slice none 0 0, .slice none 0 0] 141)
  have kP := ((Blk.new w 27 #[.int .u64 0, .slice none 0 0, .slice none 0 0]).alloc (.cells #[.int .i64 0] 36)).alloc (.cells #[.slice none 0 0, .int .i64 0, .int .u64 0, .slice none 0 0, .slice none 0 0] 141)
  have kE := (Blk.newS w (.cells #[.int .u64 0, .slice none 0 0, .slice none 0 0] 27) 36 #[.int .i64 0]).alloc (.cells #[.slice none 0 0, .int .i64 0, .int .u64 0, .slice none 0 0, .slice none 0 0] 141)
  have kR := Blk.newS (w.alloc (.cells #[.int .u64 0, .slice none 0 0, .slice none 0 0] 27)) (.cells #[.int .i64 0] 36) 141 #[.slice none 0 0, .int .i64 0, .int .u64 0, .slice none 0 0, .slice none 0 0]
  rw [World.size_alloc] at kR
  have hsz : (((w.alloc (.cells #[.int .u64 0, .slice none 0 0, .slice none 0 0] 27)).alloc (.cells #[.int .i64 0] 36)).alloc (.cells #[.slice none 0 0, .int .i64 0, .int .u64 0, .slice none 0 0, .slice none 0 0] 141)).heap.size = w.heap.size + 3 := by simp
  obtain ⟨X0, hX0⟩ : ∃ X0, ((w.alloc (.cells #[.int .u64 0, .slice none 0 0, .slice none 0 0] 27)).alloc (.cells #[.int .i64 0] 36)).alloc (.cells #[.slice none 0 0, .int .i64 0, .int .u64 0, .slice none 0 0, .slice none 0 0] 141) = X0 := ⟨_, rfl⟩
  rw [hX0] at hW0 kP kE kR hsz ⊢
  clear hX0
  refine ⟨trivial, (callsIn_wide.2 (ways_any X0)).mono ?_⟩
  rintro e X1 ⟨rfl, hM1, h1⟩
  have kP1 := kP.keep h1
  have kE1 := kE.keep h1
  have kR1 := kR.keep h1
  have hW1 := hW0.trans (h1.mono (by omega))
  have hm1 := (Array.getElem?_eq_some_iff.1 hM1).1
  have hs1 : w.heap.size + 3 < X1.heap.size := by omega
  rw [hsz] at hM1 ⊢
  clear kP kE kR hW0 h1 hsz hm1
  have HX1 := Lib.hid (And.intro hM1 (And.intro kP1 (And.intro kE1 (And.intro kR1 (And.intro hW1 hs1)))))
  clear hM1 kP1 kE1 kR1 hW1 hs1
  rename_i K hK
  refine hK _ _ ?_
  clear hK K
  gi_wp2_with fail
  refine ⟨trivial, (callsIn_wide.2 (HC.out _)).mono ?_⟩
  rintro e X2 ⟨rfl, rfl⟩
  rename_i K hK
  refine hK _ _ ?_
  clear hK K
  gi_wp2_with fail
  refine ⟨trivial, (callsIn_wide.2 (need_b _ rfl _)).mono ?_⟩
  rintro e X2 ⟨rfl, rfl⟩
  rename_i K hK
  refine hK _ _ ?_
  clear hK K
  gi_wp2_with fail
  refine ⟨trivial, (callsIn_wide.2 (pieces_fn lines _)).mono ?_⟩
  rintro e X2 ⟨rfl, rfl⟩
  rename_i K hK
  refine hK _ _ ?_
  clear hK K
  gi_wp2_with fail
  have hal := balloc (balloc (Below.refl X1.heap.size X1) (.cells #[.map (some (w.heap.size + 3))] 142)) (.cells #[.string lines] 9)
  have k5 := (Blk.new X1 142 #[.map (some (w.heap.size + 3))]).alloc (.cells #[.string lines] 9)
  have kS := Blk.newS X1 (.cells #[.map (some (w.heap.size + 3))] 142) 9 #[.string lines]
  have hszD : ((X1.alloc (.cells #[.map (some (w.heap.size + 3))] 142)).alloc (.cells #[.string lines] 9)).heap.size = X1.heap.size + 2 := by simp
  rw [World.size_alloc]
  obtain ⟨W0, hW0⟩ : ∃ W0, (X1.alloc (.cells #[.map (some (w.heap.size + 3))] 142)).alloc (.cells #[.string lines] 9) = W0 := ⟨_, rfl⟩
  rw [hW0] at hal k5 kS hszD ⊢
  clear hW0
  obtain ⟨hM1, kP1, kE1, kR1, hW1, hs1⟩ := HX1.out
  have hM2 := WM.kept hM1 (grown_new hal) (by simp)
  have kP2 := kP1.keep hal
  have kE2 := kE1.keep hal
  have kR2 := kR1.keep hal
  have hW2 := hW1.trans (hal.mono (by omega))
  have hI0 : RI w X1.heap.size W0.heap.size sts [] W0 := by
    refine ⟨.slice none 0 0, 0, .slice none 0 0, .slice none 0 0, ?_, ⟨?_, ?_⟩, ⟨?_, ?_⟩, fun _ => rfl, ⟨fun g e => (by cases e), fun g e => (by cases e), fun g e => (by cases e)⟩, hM2, k5, kP2, kE2, hW2⟩
    · rw [List.length_nil, h0]; exact kR2
    · rw [List.length_nil, h0]; exact World.ownsRow_nil _ _ _ _
    · rw [List.length_nil, h0]; intro c hc; cases hc
    · rw [List.length_nil, h0]; exact World.ownsRow_nil _ _ _ _
    · rw [List.length_nil, h0]; intro c hc; cases hc
  clear hM1 kP1 kE1 kR1 hW1 hM2 kP2 kE2 kR2 hW2 hal k5 HX1
  have hstay := RI.stay (w := w) (sts := sts) (show w.heap.size + 4 ≤ W0.heap.size by omega) (show X1.heap.size < W0.heap.size by omega)
  have hnW : w.heap.size ≤ W0.heap.size := by omega
  have hll : lines.size < 4294967281 := Nat.lt_of_le_of_lt hls (by decide)
  have hHq : ∀ k, Hq (fun _ => False) 7 (W0.heap.size + 2) k ∨ k = W0.heap.size ∨ k = W0.heap.size + 1 ↔ W0.heap.size ≤ k ∧ k < W0.heap.size + 9 := fun k => by simp only [Hq, false_or]; omega
  refine wpIn_rangeQ (n := 20) (by omega) (gf := 87) (lb := #[.pointer (some ⟨X1.heap.size + 1, 0, none⟩)]) rfl (enters_of Tryz.func87 (by kernel_rfl) rfl)
    (pieces_seqQ 19 (by omega) (X1.heap.size + 1) w.heap.size lines W0 hll hnW kS) (Below.refl _ _) hnW (fun k h => h.elim) (fun _ => rfl)
    (RI w X1.heap.size W0.heap.size sts) (fun _ _ _ => False) (hstay.mono (fun k h => (hHq k).1 h)) (fun c pre X Y row h _ _ => h.elim) hI0
    (fun x a' X => a' = { tmps := #[.string s, undef, .pointer (some ⟨w.heap.size, 0, none⟩), .pointer (some ⟨w.heap.size + 1, 0, none⟩), .pointer (some ⟨w.heap.size + 1 + 1, 0, none⟩), .pointer (some ⟨X1.heap.size, 0, none⟩), .string lines, .bool true, .int .i64 (x.2 : Nat), .string x.1, undef, .func (.func 89) #[] #[.pointer (some ⟨w.heap.size + 1, 0, none⟩)], .map (some (w.heap.size + 3)), .tuple #[.string lines, .bool true], .string s, .tuple #[.string lines, .bool true], .string lines, .bool true, .bool true, .tuple #[], .string lines, .func (.func 87) #[] #[.pointer (some ⟨X1.heap.size + 1, 0, none⟩)], .int .i64 (x.2 : Nat), .string x.1, undef, undef, undef, undef, undef, undef, undef, undef, undef, undef, undef, undef, undef, undef, undef, undef, undef, undef, undef, undef, undef], defers := [] })
    (fun x a' _ X Y row hs hg hr => hs)
    ?assign ?body ?done ?stop
  case assign =>
    rintro l2 pre x X K hgd hXs hi hK
    gi_wp2_with fail
    exact hK _ _ (KeptM.refl _ _) (Below.refl _ _) hi rfl
  case stop =>
    rintro D c pre X hD _ hx hK
    exact hx.elim
  case done =>
    rintro D xs X hD hx hI hK
    subst hx
    obtain ⟨v, num, vc, vr, hR, hC, hRr, hvr, ⟨hoc, hor, hdis⟩, hM, hm5, hP, hE, hB⟩ := hI
    rw [List.length_zipIdx] at hR hC hRr hvr
    obtain ⟨stF, hstF⟩ : ∃ stF, sts (pcs 10 lines).length = stF := ⟨_, rfl⟩
    rw [hstF] at hR hC hRr hvr
    have HSTF := Lib.hid hstF
    have d2 : X.cell? ⟨w.heap.size + 1 + 1, 2, none⟩ = some (.int .u64 (stF.df : Nat)) := cell_of_row X _ 2 _ _ _ hR
    have d3 : X.cell? ⟨w.heap.size + 1 + 1, 3, none⟩ = some vc := cell_of_row X _ 3 _ _ _ hR
    have d4 : X.cell? ⟨w.heap.size + 1 + 1, 4, none⟩ = some vr := cell_of_row X _ 4 _ _ _ hR
    have p0 : X.cell? ⟨w.heap.size, 0, none⟩ = some (.int .u64 0) := cell_of_row X _ 0 _ _ _ hP
    have p1 : X.cell? ⟨w.heap.size, 1, none⟩ = some (.slice none 0 0) := cell_of_row X _ 1 _ _ _ hP
    have p2 : X.cell? ⟨w.heap.size, 2, none⟩ = some (.slice none 0 0) := cell_of_row X _ 2 _ _ _ hP
    have q0 : X.cell? ⟨w.heap.size + 1, 0, none⟩ = some (.int .i64 0) := cell_of_row X _ 0 _ _ _ hE
    have fp0 := frozen_of_row X _ 0 _ _ hP
    have fp1 := frozen_of_row X _ 1 _ _ hP
    have fp2 := frozen_of_row X _ 2 _ _ hP
    have fq0 := frozen_of_row X _ 0 _ _ hE
    obtain ⟨xc, nc, cc, rfl⟩ : ∃ x n c, vc = .slice x n c := by
      rcases hC.1.2 with ⟨e, _⟩ | ⟨g, cap, cur, e, _⟩
      · exact ⟨_, _, _, e⟩
      · exact ⟨_, _, _, e⟩
    obtain ⟨xr, nr, cr, rfl⟩ : ∃ x n c, vr = .slice x n c := by
      rcases hRr.1.2 with ⟨e, _⟩ | ⟨g, cap, cur, e, _⟩
      · exact ⟨_, _, _, e⟩
      · exact ⟨_, _, _, e⟩
    have HB := Lib.hid (show _ ∧ _ ∧ _ ∧ _ ∧ _ ∧ _ ∧ _ ∧ _ from ⟨hC, hRr, hoc, hor, hP, hE, hB, hK⟩)
    clear hR hC hRr hvr hoc hor hdis hM hm5 hP hE hB hK hI0 hstF hHq hstay
    dsimp only
    gi_wp2_with fail
    clear d2 d3 d4 p0 p1 p2 q0 fp0 fp1 fp2 fq0
    obtain ⟨hC, hRr, hoc, hor, hP, hE, hB, hK⟩ := HB.out
    have g1 := grown_set' (grown_refl X w.heap.size) 0 (.int .u64 (stF.df : Nat))
    have b1 := heap_setCell_same X w.heap.size 0 _ _ (.int .u64 (stF.df : Nat)) hP
    have g2 := grown_set' g1 1 (.slice xc nc cc)
    have b2 := heap_setCell_same _ w.heap.size 1 _ _ (.slice xc nc cc) b1
    have g3 := grown_set' g2 2 (.slice xr nr cr)
    have b3 := heap_setCell_same _ w.heap.size 2 _ _ (.slice xr nr cr) b2
    have e3 := hE.kept g3 (fun e => by have := Option.some.inj e; omega)
    obtain ⟨X3, hX3⟩ : ∃ X3, ((X.setCell ⟨w.heap.size, 0, none⟩ (.int .u64 (stF.df : Nat))).setCell ⟨w.heap.size, 1, none⟩ (.slice xc nc cc)).setCell ⟨w.heap.size, 2, none⟩ (.slice xr nr cr) = X3 := ⟨_, rfl⟩
    rw [hX3] at g3 b3 e3 ⊢
    have g4 := grown_set' (grown_refl X3 (w.heap.size + 1)) 0 (.int .i64 0)
    have e4 := heap_setCell_same X3 (w.heap.size + 1) 0 _ _ (.int .i64 0) e3
    have b4 := Blk.kept (show Blk X3 w.heap.size 27 #[.int .u64 (stF.df : Nat), .slice xc nc cc, .slice xr nr cr] from b3) g4 (fun e => by have := Option.some.inj e; omega)
    obtain ⟨X4, hX4⟩ : ∃ X4, X3.setCell ⟨w.heap.size + 1, 0, none⟩ (.int .i64 0) = X4 := ⟨_, rfl⟩
    rw [hX4] at g4 e4 b4 ⊢
    have hkX : KeptM (fun k => w.heap.size + 2 ≤ k) X X4 := (keptM_grown g3 (fun r e h => by cases e; omega)).trans (keptM_grown g4 (fun r e h => by cases e; omega))
    have hK4 : X4.heap[D]? = some (.deferred (some [])) := (hkX.2 D (by omega) (Array.getElem?_eq_some_iff.1 hK).1).trans hK
    have hC4 : OwC X4 w.heap.size (.slice xc nc cc) stF.ls := ⟨own_keptM hC.1 hkX (fun g e => by have := hoc g e; omega), hC.2⟩
    have hR4 : OwR X4 w.heap.size (.slice xr nr cr) stF.rs := ⟨own_keptM hRr.1 hkX (fun g e => by have := hor g e; omega), hRr.2⟩
    have hB4 : Below w.heap.size w X4 := (hB.grown g3 hB.size (fun k e => by cases e; omega)).grown g4 (by have := hB.size; have := g3.size; omega) (fun k e => by cases e; omega)
    have hput : X4.grownBy (X4.putObj D (.deferred none)) (some D) := grownBy_putObj' X4 D _
    have b5 : Blk (X4.putObj D (.deferred none)) w.heap.size 27 #[.int .u64 (stF.df : Nat), .slice xc nc cc, .slice xr nr cr] := Blk.kept b4 hput (fun e => by have := Option.some.inj e; omega)
    have e5 : Blk (X4.putObj D (.deferred none)) (w.heap.size + 1) 36 #[.int .i64 0] := Blk.kept e4 hput (fun e => by have := Option.some.inj e; omega)
    have k5 : KeptM (fun k => k ≠ D) X4 (X4.putObj D (.deferred none)) := keptM_grown hput (fun r e h => by cases e; exact h rfl)
    have hC5 : OwC (X4.putObj D (.deferred none)) w.heap.size (.slice xc nc cc) stF.ls := ⟨own_keptM hC4.1 k5 (fun g e => by have := hoc g e; omega), hC4.2⟩
    have hR5 : OwR (X4.putObj D (.deferred none)) w.heap.size (.slice xr nr cr) stF.rs := ⟨own_keptM hR4.1 k5 (fun g e => by have := hor g e; omega), hR4.2⟩
    have hB5 : Below w.heap.size w (X4.putObj D (.deferred none)) := hB4.trans (below_put _ _ (by omega))
    refine ⟨by simp, .inl ⟨D, _, rfl, run_takeDeferred hK4, ?_⟩⟩
    have m0 : (X4.putObj D (.deferred none)).cell? ⟨w.heap.size, 0, none⟩ = some (.int .u64 (stF.df : Nat)) := cell_of_row _ _ 0 _ _ _ b5
    have m1 : (X4.putObj D (.deferred none)).cell? ⟨w.heap.size, 1, none⟩ = some (.slice xc nc cc) := cell_of_row _ _ 1 _ _ _ b5
    have m2 : (X4.putObj D (.deferred none)).cell? ⟨w.heap.size, 2, none⟩ = some (.slice xr nr cr) := cell_of_row _ _ 2 _ _ _ b5
    have m3 : (X4.putObj D (.deferred none)).cell? ⟨w.heap.size + 1, 0, none⟩ = some (.int .i64 0) := cell_of_row _ _ 0 _ _ _ e5
    have HZ := Lib.hid (show _ ∧ _ ∧ _ from ⟨hC5, hR5, hB5⟩)
    clear g1 b1 g2 b2 g3 b3 e3 hX3 g4 e4 b4 hX4 hkX hK4 hC4 hR4 hB4 hput b5 e5 k5 hC5 hR5 hB5 hC hRr hoc hor hP hE hB hK
    obtain ⟨Z, hZ⟩ : ∃ Z, X4.putObj D (.deferred none) = Z := ⟨_, rfl⟩
    rw [hZ] at m0 m1 m2 m3 HZ ⊢
    clear hZ
    refine ⟨by simp, .inr ⟨fun _ => by omega, .func 89, #[.pointer (some ⟨w.heap.size + 1, 0, none⟩)], 89, #[.pointer (some ⟨w.heap.size + 1, 0, none⟩)], rfl, by simp [go_sem], fun _ _ => trivial, ?_⟩⟩
    obtain ⟨hfn, hidle⟩ := idle_in (20 - 1) ⟨w.heap.size + 1, 0, none⟩ Z
    refine ⟨hfn, fun c cs hu hroom => ?_⟩
    obtain ⟨e, u', w', fr, ⟨rfl, rfl, rfl⟩, hrest⟩ := hidle c cs hu hroom
    refine ⟨_, _, _, fr, ?_, hrest⟩
    refine ⟨.tuple #[.agg #[.int .u64 (stF.df : Nat), .slice xc nc cc, .slice xr nr cr], .int .i64 0], ?_, .slice xc nc cc, .slice xr nr cr, ?_, ?_⟩
    · simp [results, Tryz.results57, go_sem, m0, m1, m2, m3]
    · rw [HSTF.out]
    · rw [HSTF.out]; exact HZ.out
  case body =>
    rintro l2 pre x a' X hl2 hgd hXs hI rfl
    obtain ⟨v, num, vc, vr, hR, hC, hRr, hvr, ⟨hoc, hor, hdis⟩, hM, hm5, hP, hE, hB⟩ := hI
    obtain ⟨kk, hpre, hx⟩ := hgd
    obtain ⟨x, i⟩ := x
    have hxi : i = kk ∧ (pcs 10 lines)[kk]? = some x ∧ pre.length = kk := by
      rw [List.getElem?_zipIdx] at hx
      obtain ⟨y, hy, hxy⟩ := Option.map_eq_some_iff.1 hx
      simp only [Prod.mk.injEq, Nat.zero_add] at hxy
      obtain ⟨rfl, rfl⟩ := hxy
      have hlt := (List.getElem?_eq_some_iff.1 hy).1
      exact ⟨rfl, hy, by rw [hpre, List.length_take, List.length_zipIdx]; omega⟩
    obtain ⟨rfl, hxp, hpl⟩ := hxi
    obtain ⟨hxs, hst, hb1, hb2⟩ := HS.out i x hxp
    rw [hpl] at hR hC hRr hvr
    obtain ⟨⟨df, ls, rs⟩, hs1e⟩ : ∃ st1, sts i = st1 := ⟨_, rfl⟩
    obtain ⟨st2, hst2⟩ : ∃ st2, sts (i + 1) = st2 := ⟨_, rfl⟩
    rw [hs1e] at hst hb1 hb2 hR hC hRr hvr
    rw [hst2] at hst
    dsimp only at hb1 hb2 hR hC hRr hvr
    clear hs1e
    have hpl2 : (pre ++ [(x, i)]).length = i + 1 := by rw [List.length_append, hpl]; rfl
    have c5 : X.cell? ⟨X1.heap.size, 0, none⟩ = some (.map (some (w.heap.size + 3))) := cell_of_row X _ 0 _ _ _ hm5
    have r0 : X.cell? ⟨w.heap.size + 1 + 1, 0, none⟩ = some v := cell_of_row X _ 0 _ _ _ hR
    have r1 : X.cell? ⟨w.heap.size + 1 + 1, 1, none⟩ = some (.int .i64 num) := cell_of_row X _ 1 _ _ _ hR
    have fR0 := frozen_of_row X _ 0 _ _ hR
    have fR1 := frozen_of_row X _ 1 _ _ hR
    dsimp only
    gi_wp2_with fail
    have hspl : x.size < 4294967281 := Nat.lt_of_le_of_lt hxs (by decide)
    refine ⟨trivial, (show CallsIn (Fence.wide.inRound _) 17 _ _ _ _ _ from callsIn_wide.2 (split_any x 32 hspl X)).mono ?_⟩
    rintro e X2 ⟨rfl, hX2⟩
    have hal2 : Below X.heap.size X X2 := by rw [hX2]; exact balloc (Below.refl _ _) _
    have kb2 : Blk X2 X.heap.size 9 ((pcs 32 x).map Value.string).toArray := by rw [hX2]; exact Blk.new X _ _
    have hR2 := Rd.kept hR (grown_new hal2) (by simp)
    have r02 : X2.cell? ⟨w.heap.size + 1 + 1, 0, none⟩ = some v := cell_of_row X2 _ 0 _ _ _ hR2
    have r12 : X2.cell? ⟨w.heap.size + 1 + 1, 1, none⟩ = some (.int .i64 num) := cell_of_row X2 _ 1 _ _ _ hR2
    have fR02 := frozen_of_row X2 _ 0 _ _ hR2
    have fR12 := frozen_of_row X2 _ 1 _ _ hR2
    rename_i K hK
    refine hK _ _ ?_
    clear hK K r0 r1 fR0 fR1 hspl
    obtain ⟨N, hN⟩ : ∃ N, (pcs 32 x).length = N := ⟨_, rfl⟩
    have hN32 : N ≤ 4294967290 := by
      have h2 := pcs_len 32 x
      have h3 := Lib.countB_le ⟨#[32]⟩ (one1 32) x.size x (Nat.le_refl _)
      rw [← hN, h2]
      exact Nat.le_trans (Nat.add_le_add_right (Nat.le_trans h3 hxs) 1) (by decide)
    rw [hN]
    have HB := Lib.hid (show _ ∧ _ ∧ _ ∧ _ ∧ _ ∧ _ ∧ _ ∧ _ ∧ _ ∧ _ ∧ _ ∧ _ ∧ _ ∧ _ ∧ _ ∧ _ from ⟨hR2, kb2, hal2, hC, hRr, hvr, hoc, hor, hdis, hM, hm5, hP, hE, hB, hN, hN32⟩)
    have HL := Lib.hid (show _ ∧ _ ∧ _ ∧ _ ∧ _ ∧ _ from ⟨hst2, hb1, hb2, hpl, hpl2, hXs⟩)
    have HI := Lib.hid (step_invT hst)
    clear hR2 kb2 hal2 hC hRr hvr hoc hor hdis hM hm5 hP hE hB hN hN32 hX2 hR hst hst2 hb1 hb2 hpl hpl2 hXs hpre hx hxp hxs
    --KINDS
    gi_wp2_with fail
    have hY1 : Rd ((X2.setCell ⟨w.heap.size + 1 + 1, 1, none⟩ (.int .i64 (i : Nat))).setCell ⟨w.heap.size + 1 + 1, 0, none⟩ (.slice (some ⟨X.heap.size, 0, none⟩) N N)).drew (w.heap.size + 1 + 1) (.slice (some ⟨X.heap.size, 0, none⟩) N N) (i : Nat) df vc vr ∧
        Wd ((X2.setCell ⟨w.heap.size + 1 + 1, 1, none⟩ (.int .i64 (i : Nat))).setCell ⟨w.heap.size + 1 + 1, 0, none⟩ (.slice (some ⟨X.heap.size, 0, none⟩) N N)).drew X.heap.size (pcs 32 x) 0 (.slice (some ⟨X.heap.size, 0, none⟩) N N) ∧
        X2.grownBy ((X2.setCell ⟨w.heap.size + 1 + 1, 1, none⟩ (.int .i64 (i : Nat))).setCell ⟨w.heap.size + 1 + 1, 0, none⟩ (.slice (some ⟨X.heap.size, 0, none⟩) N N)).drew (some (w.heap.size + 1 + 1)) := by
      obtain ⟨hR2, kb2, hal2, hC, hRr, hvr, hoc, hor, hdis, hM, hm5, hP, hE, hB, hN, hN32⟩ := HB.out
      obtain ⟨hst2, hb1, hb2, hpl, hpl2, hXs⟩ := HL.out
      have g1 := grown_set' (grown_refl X2 (w.heap.size + 1 + 1)) 1 (.int .i64 (i : Nat))
      have g2 := grown_set' g1 0 (.slice (some ⟨X.heap.size, 0, none⟩) N N)
      have b1 := heap_setCell_same X2 (w.heap.size + 1 + 1) 1 _ _ (.int .i64 (i : Nat)) hR2
      have b2 := heap_setCell_same _ (w.heap.size + 1 + 1) 0 _ _ (.slice (some ⟨X.heap.size, 0, none⟩) N N) b1
      have kb := kb2.kept g2 (fun e => by have := Option.some.inj e; omega)
      exact ⟨b2, ⟨kb, Nat.zero_le _, by rw [hN]; exact hN32, _, _, by rw [hN]; rfl, fun _ => ⟨rfl, by rw [hN]; rfl⟩⟩, grown_drew g2⟩
    obtain ⟨WY, hWY⟩ : ∃ WY, ((X2.setCell ⟨w.heap.size + 1 + 1, 1, none⟩ (.int .i64 (i : Nat))).setCell ⟨w.heap.size + 1 + 1, 0, none⟩ (.slice (some ⟨X.heap.size, 0, none⟩) N N)).drew = WY := ⟨_, rfl⟩
    rw [hWY] at hY1
    have HY1 := Lib.hid hY1
    have hYe := Lib.hid hWY
    clear hY1 hWY
    rcases HI.out with ⟨u, hi0, hcs, hu, he, hst2e⟩ | ⟨T, u, hi0, hrs, hcs, hl, hok, hu, he, hst2e⟩ | ⟨T, ue, u, e0, hi0, hcs, hl, hok, hue, he0, hpu, hnum, hu, he, hst2e⟩
    · have HS2 := Lib.hid hst2e
      have HI0 := Lib.hid hi0
      clear hst2e HI hi0
      refine wpIn_region_round l2 (by kernel_rfl) (by kernel_rfl) ?_
      refine any_gn 5 #[false, false, false, false, false] rfl rfl (fun ops Q hops hQ => ?_)
      have Hops := Lib.hid hops.out
      have p0 := congrArg (fun o : Array Oper => o[0]?) hops.out.symm
      have p1 := congrArg (fun o : Array Oper => o[1]?) hops.out.symm
      have p2 := congrArg (fun o : Array Oper => o[2]?) hops.out.symm
      have p3 := congrArg (fun o : Array Oper => o[3]?) hops.out.symm
      have p4 := congrArg (fun o : Array Oper => o[4]?) hops.out.symm
      simp only [List.getElem?_toArray, List.getElem?_cons_zero, List.getElem?_cons_succ] at p0 p1 p2 p3 p4
      clear hops
      rw [hYe.out]
      have rest : ∀ (Yn : World) (v1 : Value), Rd Yn (w.heap.size + 1 + 1) v1 (i : Nat) df vc vr → Wd Yn X.heap.size (pcs 32 x) 1 v1 → X2.grownBy Yn (some (w.heap.size + 1 + 1)) → Q .normal { tmps := #[.string s, undef, .pointer (some ⟨w.heap.size, 0, none⟩), .pointer (some ⟨w.heap.size + 1, 0, none⟩), .pointer (some ⟨w.heap.size + 1 + 1, 0, none⟩), .pointer (some ⟨X1.heap.size, 0, none⟩), .string lines, .bool true, .int .i64 (i : Nat), .string x, (.func (.func 119) #[] #[]), .func (.func 89) #[] #[.pointer (some ⟨w.heap.size + 1, 0, none⟩)], .map (some (w.heap.size + 3)), .tuple #[.string lines, .bool true], .string s, .tuple #[.string lines, .bool true], .string lines, .bool true, .bool true, .tuple #[], .string lines, .func (.func 87) #[] #[.pointer (some ⟨X1.heap.size + 1, 0, none⟩)], .int .i64 (i : Nat), .string x, .int .i64 (i : Nat), .string x, .slice (some ⟨X.heap.size, 0, none⟩) N N, .pointer (some ⟨w.heap.size + 1 + 1, 1, none⟩), .pointer (some ⟨w.heap.size + 1 + 1, 0, none⟩), .map (some (w.heap.size + 3)), .pointer (some ⟨w.heap.size + 1 + 1, 0, none⟩), .string sDef, (.func (.func 119) #[] #[]), undef, undef, undef, undef, undef, undef, undef, undef, undef, undef, undef, undef], defers := [] } Yn := by
        rw [← hQ.out]
        intro Yn v1 hRn hbn hgn
        obtain ⟨hR2, kb2, hal2, hC, hRr, hvr, hoc, hor, hdis, hM, hm5, hP, hE, hB, hN, hN32⟩ := HB.out
        obtain ⟨hst2, hb1, hb2, hpl, hpl2, hXs⟩ := HL.out
        have hs2 := hal2.size
        have hsn := hgn.size
        have hBn : Below w.heap.size w Yn := (hB.trans (hal2.mono hB.size)).grown hgn (Nat.le_trans hB.size hs2) (fun k e => by cases e; omega)
        have hTSn : ∀ w', Yn.grownBy w' (some (w.heap.size + 1 + 1)) → TZ w' := fun w' h => HT.out.2 w' (hBn.grown h hBn.size (fun k e => by cases e; omega))
        have kXn : KeptM (fun k => k < W0.heap.size + 9 ∧ k ≠ (w.heap.size + 1 + 1)) X Yn := (KeptM.new hal2).trans (KeptM.grown hgn (fun r e h => by cases e; exact h.2 rfl))
        have kXa : KeptM (fun k => k ≠ (w.heap.size + 1 + 1)) X Yn := (KeptM.new hal2).trans (KeptM.grown hgn (fun r e h => by cases e; exact h rfl))
        have hBXn : Below w.heap.size X Yn := (hal2.mono hB.size).grown hgn (Nat.le_trans hB.size hs2) (fun k e => by cases e; omega)
        have hCn : OwC Yn w.heap.size vc ls := ⟨own_keptM hC.1 kXa (fun g e => by have := hoc g e; omega), hC.2⟩
        have hRrn : OwR Yn w.heap.size vr rs := ⟨own_keptM hRr.1 kXa (fun g e => by have := hor g e; omega), hRr.2⟩
        rw [HI0.out] at hRn
        have hnf : ∀ Y, (binOp .neq 146 (.func (.func 119) #[] #[]) .nilFunc).run Tryz.prog Y = .ok (.bool true) Y := fun Y => by kernel_rfl
        have HCALL := Lib.hid (default_ok (w.heap.size + 1 + 1) X.heap.size 1 _ _ u v1 df vc vr Yn hRn hbn (by rw [hcs]; rfl) hu he rfl hTSn)
        have HY := Lib.hid (show _ ∧ _ ∧ _ ∧ _ ∧ _ from ⟨kXn, hBXn, hCn, hRrn, hsn⟩)
        clear hRn hbn hgn hR2 kb2 hal2 hC hRr hvr hoc hor hdis hM hm5 hP hE hB hN hN32 hst2 hb1 hb2 hpl hpl2 hXs hBn hTSn kXn kXa hBXn hCn hRrn hs2 hsn
        gi_wp2_with fail
        refine ⟨trivial, (show CallsIn (Fence.wide.inRound _) 17 _ _ _ _ _ from callsIn_wide.2 (need_b _ rfl _)).mono ?_⟩
        rintro e Y2 ⟨rfl, rfl⟩
        rename_i K1 hK1
        refine hK1 _ _ ?_
        clear hK1 K1
        gi_wp2_with fail
        refine ⟨trivial, (show CallsIn (Fence.wide.inRound _) 17 _ _ _ _ _ from callsIn_wide.2 (HCALL.out)).mono ?_⟩
        rintro e Z ⟨rfl, v2, hRz, hbz, hgz⟩
        rename_i K1 hK1
        refine hK1 _ _ ?_
        clear hK1 K1 HCALL
        obtain ⟨xw, cw, rfl⟩ : ∃ xw cw, v2 = .slice xw 0 cw := by
          obtain ⟨_, _, _, xw, cw, e, _⟩ := hbz
          exact ⟨xw, cw, by rw [e, hcs]; rfl⟩
        have z0 : Z.cell? ⟨w.heap.size + 1 + 1, 0, none⟩ = some (.slice xw 0 cw) := cell_of_row Z _ 0 _ _ _ hRz
        have hfin : KeptM (fun k => W0.heap.size ≤ k ∧ k < W0.heap.size + 9) X Z ∧ Below w.heap.size X Z ∧ RI w X1.heap.size W0.heap.size sts (pre ++ [(x, i)]) Z := by
          obtain ⟨kXn, hBXn, hCn, hRrn, hsn⟩ := HY.out
          obtain ⟨hR2, kb2, hal2, hC, hRr, hvr, hoc, hor, hdis, hM, hm5, hP, hE, hB, hN, hN32⟩ := HB.out
          obtain ⟨hst2, hb1, hb2, hpl, hpl2, hXs⟩ := HL.out
          have hst2z := hst2.trans HS2.out
          have hs2 := hal2.size
          have kYZ : KeptM (fun k => k ≠ (w.heap.size + 1 + 1)) Yn Z := KeptM.grown hgz (fun r e h => by cases e; exact h rfl)
          have hCz : OwC Z w.heap.size vc ls := ⟨own_keptM hCn.1 kYZ (fun g e => by have := hoc g e; omega), hCn.2⟩
          have hRrz : OwR Z w.heap.size vr rs := ⟨own_keptM hRrn.1 kYZ (fun g e => by have := hor g e; omega), hRrn.2⟩
          exact line_endD (by omega) (by omega) hs1 hpl2 hst2z hRz hCz hRrz hvr ⟨hoc, hor, hdis⟩ hM hm5 hP hE hB (kXn.trans (kYZ.mono (fun k (h : k < W0.heap.size + 9 ∧ k ≠ w.heap.size + 1 + 1) => h.2))) (hBXn.trans ((Below.refl _ _).grown hgz (by have := hB.size; omega) (fun k e => by cases e; omega)))
        have HF := Lib.hid hfin
        clear hfin HY hRz hbz hgz
        gi_wp2_with fail
        refine ⟨trivial, (show CallsIn (Fence.wide.inRound _) 17 _ _ _ _ _ from callsIn_wide.2 (need_b _ rfl _)).mono ?_⟩
        rintro e Z2 ⟨rfl, rfl⟩
        rename_i K1 hK1
        refine hK1 _ _ ?_
        clear hK1 K1
        gi_wp2_with fail
        exact ⟨HF.out.1.mono (fun k h => (hHq k).1 h), HF.out.2⟩
      have HREST := Lib.hid rest
      clear rest
      have look : ∀ Yn : World, WM Yn (w.heap.size + 3) → (Instr.lookup 142 (.map (some (w.heap.size + 3))) (.string sDef) false).run Tryz.prog Yn = .ok (.func (.func 119) #[] #[]) Yn := fun Yn h => look_str _ _ _ _ _ _ Yn h find_def
      have wm : ∀ Yn : World, X2.grownBy Yn (some (w.heap.size + 1 + 1)) → WM Yn (w.heap.size + 3) ∧ Yn.cell? ⟨X1.heap.size, 0, none⟩ = some (.map (some (w.heap.size + 3))) := fun Yn hgn => by
        obtain ⟨hR2, kb2, hal2, hC, hRr, hvr, hoc, hor, hdis, hM, hm5, hP, hE, hB, hN, hN32⟩ := HB.out
        have h1 := hM.kept (grown_new hal2) (by simp)
        have h2 := hm5.keep hal2
        exact ⟨h1.kept hgn (fun e => by have := Option.some.inj e; omega), cell_of_row _ _ 0 _ _ _ (h2.kept hgn (fun e => by have := Option.some.inj e; omega))⟩
      have HWM := Lib.hid wm
      clear wm
      have s012 : ∀ (Yn : World) (v1 : Value), Rd Yn (w.heap.size + 1 + 1) v1 (i : Nat) df vc vr → Wd Yn X.heap.size (pcs 32 x) 1 v1 → X2.grownBy Yn (some (w.heap.size + 1 + 1)) → wpAnyIn Fence.wide (20 - 1 - 1) Tryz.prog .any ops Q 2 #[true, true, true, false, false] { tmps := #[.string s, undef, .pointer (some ⟨w.heap.size, 0, none⟩), .pointer (some ⟨w.heap.size + 1, 0, none⟩), .pointer (some ⟨w.heap.size + 1 + 1, 0, none⟩), .pointer (some ⟨X1.heap.size, 0, none⟩), .string lines, .bool true, .int .i64 (i : Nat), .string x, undef, .func (.func 89) #[] #[.pointer (some ⟨w.heap.size + 1, 0, none⟩)], .map (some (w.heap.size + 3)), .tuple #[.string lines, .bool true], .string s, .tuple #[.string lines, .bool true], .string lines, .bool true, .bool true, .tuple #[], .string lines, .func (.func 87) #[] #[.pointer (some ⟨X1.heap.size + 1, 0, none⟩)], .int .i64 (i : Nat), .string x, .int .i64 (i : Nat), .string x, .slice (some ⟨X.heap.size, 0, none⟩) N N, .pointer (some ⟨w.heap.size + 1 + 1, 1, none⟩), .pointer (some ⟨w.heap.size + 1 + 1, 0, none⟩), .map (some (w.heap.size + 3)), .pointer (some ⟨w.heap.size + 1 + 1, 0, none⟩), .string sDef, undef, undef, undef, undef, undef, undef, undef, undef, undef, undef, undef, undef, undef], defers := [] } Yn := by
        intro Yn v1 hRn hbn hgn
        have hlk := look Yn (HWM.out Yn hgn).1
        refine wpAnyIn_ready (rs := [3]) (by rw [← Hops.out]; kernel_rfl) (by simp) ?_
        refine AllReadyIn.cons p3 (fun K hK => ?_) AllReadyIn.nil
        simp only [List.setIfInBounds_toArray, List.set_cons_zero, List.set_cons_succ] at hK
        go_simp
        refine hK _ _ ?_
        clear hK K
        refine wpAnyIn_ready (rs := [4]) (by rw [← Hops.out]; kernel_rfl) (by simp) ?_
        refine AllReadyIn.cons p4 (fun K hK => ?_) AllReadyIn.nil
        simp only [List.setIfInBounds_toArray, List.set_cons_zero, List.set_cons_succ] at hK
        go_simp
        refine hK _ _ ?_
        clear hK K
        exact wpAnyIn_done (by rw [← Hops.out]; kernel_rfl) (HREST.out Yn v1 hRn hbn hgn) _
      have HY0 := Lib.hid (show Rd WY (w.heap.size + 1 + 1) (.slice (some ⟨X.heap.size, 0, none⟩) N N) (i : Nat) df vc vr ∧ Wd WY X.heap.size (pcs 32 x) 0 (.slice (some ⟨X.heap.size, 0, none⟩) N N) ∧ X2.grownBy WY (some (w.heap.size + 1 + 1)) from HY1.out)
      have c5Y := (HWM.out WY HY0.out.2.2).2
      have s01 : wpAnyIn Fence.wide (20 - 1 - 1) Tryz.prog .any ops Q 3 #[true, true, false, false, false] { tmps := #[.string s, undef, .pointer (some ⟨w.heap.size, 0, none⟩), .pointer (some ⟨w.heap.size + 1, 0, none⟩), .pointer (some ⟨w.heap.size + 1 + 1, 0, none⟩), .pointer (some ⟨X1.heap.size, 0, none⟩), .string lines, .bool true, .int .i64 (i : Nat), .string x, undef, .func (.func 89) #[] #[.pointer (some ⟨w.heap.size + 1, 0, none⟩)], .map (some (w.heap.size + 3)), .tuple #[.string lines, .bool true], .string s, .tuple #[.string lines, .bool true], .string lines, .bool true, .bool true, .tuple #[], .string lines, .func (.func 87) #[] #[.pointer (some ⟨X1.heap.size + 1, 0, none⟩)], .int .i64 (i : Nat), .string x, .int .i64 (i : Nat), .string x, .slice (some ⟨X.heap.size, 0, none⟩) N N, .pointer (some ⟨w.heap.size + 1 + 1, 1, none⟩), .pointer (some ⟨w.heap.size + 1 + 1, 0, none⟩), .map (some (w.heap.size + 3)), .pointer (some ⟨w.heap.size + 1 + 1, 0, none⟩), undef, undef, undef, undef, undef, undef, undef, undef, undef, undef, undef, undef, undef, undef], defers := [] } WY := by
        refine wpAnyIn_ready (rs := [2]) (by rw [← Hops.out]; kernel_rfl) (by simp) ?_
        refine AllReadyIn.cons p2 (fun K hK => ?_) AllReadyIn.nil
        simp only [List.setIfInBounds_toArray, List.set_cons_zero, List.set_cons_succ] at hK
        go_simp
        refine ⟨trivial, (callsIn_wide.2 (next_ok (w.heap.size + 1 + 1) X.heap.size 0 (pcs 32 x) sDef _ (i : Nat) df vc vr _ HY0.out.1 HY0.out.2.1 (by rw [hcs]; rfl))).mono ?_⟩
        rintro e Yn ⟨rfl, v1, hRn, hbn, hgn⟩
        exact hK _ _ (s012 Yn v1 hRn hbn (grown_both HY0.out.2.2 hgn))
      have s12 : ∀ (Yn : World) (v1 : Value), Rd Yn (w.heap.size + 1 + 1) v1 (i : Nat) df vc vr → Wd Yn X.heap.size (pcs 32 x) 1 v1 → X2.grownBy Yn (some (w.heap.size + 1 + 1)) → wpAnyIn Fence.wide (20 - 1 - 1) Tryz.prog .any ops Q 3 #[false, true, true, false, false] { tmps := #[.string s, undef, .pointer (some ⟨w.heap.size, 0, none⟩), .pointer (some ⟨w.heap.size + 1, 0, none⟩), .pointer (some ⟨w.heap.size + 1 + 1, 0, none⟩), .pointer (some ⟨X1.heap.size, 0, none⟩), .string lines, .bool true, .int .i64 (i : Nat), .string x, undef, .func (.func 89) #[] #[.pointer (some ⟨w.heap.size + 1, 0, none⟩)], .map (some (w.heap.size + 3)), .tuple #[.string lines, .bool true], .string s, .tuple #[.string lines, .bool true], .string lines, .bool true, .bool true, .tuple #[], .string lines, .func (.func 87) #[] #[.pointer (some ⟨X1.heap.size + 1, 0, none⟩)], .int .i64 (i : Nat), .string x, .int .i64 (i : Nat), .string x, .slice (some ⟨X.heap.size, 0, none⟩) N N, .pointer (some ⟨w.heap.size + 1 + 1, 1, none⟩), .pointer (some ⟨w.heap.size + 1 + 1, 0, none⟩), undef, .pointer (some ⟨w.heap.size + 1 + 1, 0, none⟩), .string sDef, undef, undef, undef, undef, undef, undef, undef, undef, undef, undef, undef, undef, undef], defers := [] } Yn := by
        intro Yn v1 hRn hbn hgn
        have c5n := (HWM.out Yn hgn).2
        refine wpAnyIn_ready (rs := [0]) (by rw [← Hops.out]; kernel_rfl) (by simp) ?_
        refine AllReadyIn.cons p0 (fun K hK => ?_) AllReadyIn.nil
        simp only [List.setIfInBounds_toArray, List.set_cons_zero, List.set_cons_succ] at hK
        go_simp
        exact hK _ _ (s012 Yn v1 hRn hbn hgn)
      have s1 : wpAnyIn Fence.wide (20 - 1 - 1) Tryz.prog .any ops Q 4 #[false, true, false, false, false] { tmps := #[.string s, undef, .pointer (some ⟨w.heap.size, 0, none⟩), .pointer (some ⟨w.heap.size + 1, 0, none⟩), .pointer (some ⟨w.heap.size + 1 + 1, 0, none⟩), .pointer (some ⟨X1.heap.size, 0, none⟩), .string lines, .bool true, .int .i64 (i : Nat), .string x, undef, .func (.func 89) #[] #[.pointer (some ⟨w.heap.size + 1, 0, none⟩)], .map (some (w.heap.size + 3)), .tuple #[.string lines, .bool true], .string s, .tuple #[.string lines, .bool true], .string lines, .bool true, .bool true, .tuple #[], .string lines, .func (.func 87) #[] #[.pointer (some ⟨X1.heap.size + 1, 0, none⟩)], .int .i64 (i : Nat), .string x, .int .i64 (i : Nat), .string x, .slice (some ⟨X.heap.size, 0, none⟩) N N, .pointer (some ⟨w.heap.size + 1 + 1, 1, none⟩), .pointer (some ⟨w.heap.size + 1 + 1, 0, none⟩), undef, .pointer (some ⟨w.heap.size + 1 + 1, 0, none⟩), undef, undef, undef, undef, undef, undef, undef, undef, undef, undef, undef, undef, undef, undef], defers := [] } WY := by
        refine wpAnyIn_ready (rs := [0, 2]) (by rw [← Hops.out]; kernel_rfl) (by simp) ?_
        refine AllReadyIn.cons p0 (fun K hK => ?_) (AllReadyIn.cons p2 (fun K hK => ?_) AllReadyIn.nil)
        · simp only [List.setIfInBounds_toArray, List.set_cons_zero, List.set_cons_succ] at hK
          go_simp
          exact hK _ _ s01
        · simp only [List.setIfInBounds_toArray, List.set_cons_zero, List.set_cons_succ] at hK
          go_simp
          refine ⟨trivial, (callsIn_wide.2 (next_ok (w.heap.size + 1 + 1) X.heap.size 0 (pcs 32 x) sDef _ (i : Nat) df vc vr _ HY0.out.1 HY0.out.2.1 (by rw [hcs]; rfl))).mono ?_⟩
          rintro e Yn ⟨rfl, v1, hRn, hbn, hgn⟩
          exact hK _ _ (s12 Yn v1 hRn hbn (grown_both HY0.out.2.2 hgn))
      refine wpAnyIn_ready (rs := [0, 1]) (by rw [← Hops.out]; kernel_rfl) (by simp) ?_
      refine AllReadyIn.cons p0 (fun K hK => ?_) (AllReadyIn.cons p1 (fun K hK => ?_) AllReadyIn.nil)
      · simp only [List.setIfInBounds_toArray, List.set_cons_zero, List.set_cons_succ] at hK
        go_simp
        refine hK _ _ ?_
        clear hK K
        refine wpAnyIn_ready (rs := [1]) (by rw [← Hops.out]; kernel_rfl) (by simp) ?_
        refine AllReadyIn.cons p1 (fun K hK => ?_) AllReadyIn.nil
        simp only [List.setIfInBounds_toArray, List.set_cons_zero, List.set_cons_succ] at hK
        go_simp
        exact hK _ _ s01
      · simp only [List.setIfInBounds_toArray, List.set_cons_zero, List.set_cons_succ] at hK
        go_simp
        exact hK _ _ s1
    · have HS2 := Lib.hid hst2e
      subst hrs
      clear hst2e HI
      refine wpIn_region_round l2 (by kernel_rfl) (by kernel_rfl) ?_
      refine any_gn 5 #[false, false, false, false, false] rfl rfl (fun ops Q hops hQ => ?_)
      have Hops := Lib.hid hops.out
      have p0 := congrArg (fun o : Array Oper => o[0]?) hops.out.symm
      have p1 := congrArg (fun o : Array Oper => o[1]?) hops.out.symm
      have p2 := congrArg (fun o : Array Oper => o[2]?) hops.out.symm
      have p3 := congrArg (fun o : Array Oper => o[3]?) hops.out.symm
      have p4 := congrArg (fun o : Array Oper => o[4]?) hops.out.symm
      simp only [List.getElem?_toArray, List.getElem?_cons_zero, List.getElem?_cons_succ] at p0 p1 p2 p3 p4
      clear hops
      rw [hYe.out]
      have rest : ∀ (Yn : World) (v1 : Value), Rd Yn (w.heap.size + 1 + 1) v1 (i : Nat) df vc vr → Wd Yn X.heap.size (pcs 32 x) 1 v1 → X2.grownBy Yn (some (w.heap.size + 1 + 1)) → Q .normal { tmps := #[.string s, undef, .pointer (some ⟨w.heap.size, 0, none⟩), .pointer (some ⟨w.heap.size + 1, 0, none⟩), .pointer (some ⟨w.heap.size + 1 + 1, 0, none⟩), .pointer (some ⟨X1.heap.size, 0, none⟩), .string lines, .bool true, .int .i64 (i : Nat), .string x, (.func (.func 120) #[] #[]), .func (.func 89) #[] #[.pointer (some ⟨w.heap.size + 1, 0, none⟩)], .map (some (w.heap.size + 3)), .tuple #[.string lines, .bool true], .string s, .tuple #[.string lines, .bool true], .string lines, .bool true, .bool true, .tuple #[], .string lines, .func (.func 87) #[] #[.pointer (some ⟨X1.heap.size + 1, 0, none⟩)], .int .i64 (i : Nat), .string x, .int .i64 (i : Nat), .string x, .slice (some ⟨X.heap.size, 0, none⟩) N N, .pointer (some ⟨w.heap.size + 1 + 1, 1, none⟩), .pointer (some ⟨w.heap.size + 1 + 1, 0, none⟩), .map (some (w.heap.size + 3)), .pointer (some ⟨w.heap.size + 1 + 1, 0, none⟩), .string sClr, (.func (.func 120) #[] #[]), undef, undef, undef, undef, undef, undef, undef, undef, undef, undef, undef, undef], defers := [] } Yn := by
        rw [← hQ.out]
        intro Yn v1 hRn hbn hgn
        obtain ⟨hR2, kb2, hal2, hC, hRr, hvr, hoc, hor, hdis, hM, hm5, hP, hE, hB, hN, hN32⟩ := HB.out
        obtain ⟨hst2, hb1, hb2, hpl, hpl2, hXs⟩ := HL.out
        have hs2 := hal2.size
        have hsn := hgn.size
        have hBn : Below w.heap.size w Yn := (hB.trans (hal2.mono hB.size)).grown hgn (Nat.le_trans hB.size hs2) (fun k e => by cases e; omega)
        have hTSn : ∀ w', Yn.grownBy w' (some (w.heap.size + 1 + 1)) → TZ w' := fun w' h => HT.out.2 w' (hBn.grown h hBn.size (fun k e => by cases e; omega))
        have kXn : KeptM (fun k => k < W0.heap.size + 9 ∧ k ≠ (w.heap.size + 1 + 1)) X Yn := (KeptM.new hal2).trans (KeptM.grown hgn (fun r e h => by cases e; exact h.2 rfl))
        have kXa : KeptM (fun k => k ≠ (w.heap.size + 1 + 1)) X Yn := (KeptM.new hal2).trans (KeptM.grown hgn (fun r e h => by cases e; exact h rfl))
        have hBXn : Below w.heap.size X Yn := (hal2.mono hB.size).grown hgn (Nat.le_trans hB.size hs2) (fun k e => by cases e; omega)
        have hCn : OwC Yn w.heap.size vc ls := ⟨own_keptM hC.1 kXa (fun g e => by have := hoc g e; omega), hC.2⟩
        have hRrn : OwR Yn w.heap.size vr [] := ⟨own_keptM hRr.1 kXa (fun g e => by have := hor g e; omega), hRr.2⟩
        have hown : vc.ownBlock ≠ some (w.heap.size + 1 + 1) ∧ vc.ownBlock ≠ some X.heap.size := ⟨fun e => by have := hoc _ e; omega, fun e => by have := (hC.1.lt _ e).2; omega⟩
        rw [hvr (by trivial)] at hRn
        have hnf : ∀ Y, (binOp .neq 146 (.func (.func 120) #[] #[]) .nilFunc).run Tryz.prog Y = .ok (.bool true) Y := fun Y => by kernel_rfl
        have HCALL := Lib.hid (clear_ok (w.heap.size + 1 + 1) X.heap.size 1 _ w.heap.size _ T u v1 i df vc ls Yn hRn hbn hi0 (by rw [hcs]; rfl) (by rw [hcs]; rfl) hl hok hu he rfl hTSn (by omega) hBn.size hCn hown (labV_lt _) hb1)
        have HY := Lib.hid (show _ ∧ _ ∧ _ ∧ _ ∧ _ from ⟨kXn, hBXn, hCn, hRrn, hsn⟩)
        clear hRn hbn hgn hR2 kb2 hal2 hC hRr hvr hoc hor hdis hM hm5 hP hE hB hN hN32 hst2 hb1 hb2 hpl hpl2 hXs hBn hTSn kXn kXa hBXn hCn hRrn hs2 hsn
        gi_wp2_with fail
        refine ⟨trivial, (show CallsIn (Fence.wide.inRound _) 17 _ _ _ _ _ from callsIn_wide.2 (need_b _ rfl _)).mono ?_⟩
        rintro e Y2 ⟨rfl, rfl⟩
        rename_i K1 hK1
        refine hK1 _ _ ?_
        clear hK1 K1
        gi_wp2_with fail
        refine ⟨trivial, (show CallsIn (Fence.wide.inRound _) 17 _ _ _ _ _ from callsIn_wide.2 (HCALL.out)).mono ?_⟩
        rintro e Z ⟨rfl, v2, vc2, hRz, hbz, hCz, hoz, hBz, hKz⟩
        rename_i K1 hK1
        refine hK1 _ _ ?_
        clear hK1 K1 HCALL
        obtain ⟨xw, cw, rfl⟩ : ∃ xw cw, v2 = .slice xw 0 cw := by
          obtain ⟨_, _, _, xw, cw, e, _⟩ := hbz
          exact ⟨xw, cw, by rw [e, hcs]; rfl⟩
        have z0 : Z.cell? ⟨w.heap.size + 1 + 1, 0, none⟩ = some (.slice xw 0 cw) := cell_of_row Z _ 0 _ _ _ hRz
        have hfin : KeptM (fun k => W0.heap.size ≤ k ∧ k < W0.heap.size + 9) X Z ∧ Below w.heap.size X Z ∧ RI w X1.heap.size W0.heap.size sts (pre ++ [(x, i)]) Z := by
          obtain ⟨kXn, hBXn, hCn, hRrn, hsn⟩ := HY.out
          obtain ⟨hR2, kb2, hal2, hC, hRr, hvr, hoc, hor, hdis, hM, hm5, hP, hE, hB, hN, hN32⟩ := HB.out
          obtain ⟨hst2, hb1, hb2, hpl, hpl2, hXs⟩ := HL.out
          have hst2z := hst2.trans HS2.out
          have hs2 := hal2.size
          have hRrz : OwR Z w.heap.size vr [] := ⟨own_keptM hRrn.1 hKz (fun g e => ⟨by have := hor g e; omega, fun e2 => hdis g e2 e⟩), hRrn.2⟩
          have hvn := hvr (by trivial)
          have hnew : ∀ g, vc2.ownBlock = some g → vc.ownBlock = some g ∨ Yn.heap.size ≤ g := fun g e => by
            rcases hoz with h | ⟨g2, h, h2⟩
            · exact .inl (h.symm.trans e)
            · rw [h] at e; cases e; exact .inr h2
          rw [hvn] at hRrz
          exact line_end (by omega) (by omega) hs1 hpl2 hst2z hRz hCz hRrz (fun _ => rfl) ⟨fun g e => (hnew g e).elim (hoc g) (fun h => by omega), fun g e => (by cases e), fun g _ e => (by cases e)⟩ hM hm5 hP hE hB (kXn.trans (hKz.mono (fun k (h : k < W0.heap.size + 9 ∧ k ≠ w.heap.size + 1 + 1) => ⟨h.2, fun e => by have := hoc k e; omega⟩))) (hBXn.trans hBz)
        have HF := Lib.hid hfin
        clear hfin HY hRz hbz hCz hoz hBz hKz
        gi_wp2_with fail
        refine ⟨trivial, (show CallsIn (Fence.wide.inRound _) 17 _ _ _ _ _ from callsIn_wide.2 (need_b _ rfl _)).mono ?_⟩
        rintro e Z2 ⟨rfl, rfl⟩
        rename_i K1 hK1
        refine hK1 _ _ ?_
        clear hK1 K1
        gi_wp2_with fail
        exact ⟨HF.out.1.mono (fun k h => (hHq k).1 h), HF.out.2⟩
      have HREST := Lib.hid rest
      clear rest
      have look : ∀ Yn : World, WM Yn (w.heap.size + 3) → (Instr.lookup 142 (.map (some (w.heap.size + 3))) (.string sClr) false).run Tryz.prog Yn = .ok (.func (.func 120) #[] #[]) Yn := fun Yn h => look_str _ _ _ _ _ _ Yn h find_clr
      have wm : ∀ Yn : World, X2.grownBy Yn (some (w.heap.size + 1 + 1)) → WM Yn (w.heap.size + 3) ∧ Yn.cell? ⟨X1.heap.size, 0, none⟩ = some (.map (some (w.heap.size + 3))) := fun Yn hgn => by
        obtain ⟨hR2, kb2, hal2, hC, hRr, hvr, hoc, hor, hdis, hM, hm5, hP, hE, hB, hN, hN32⟩ := HB.out
        have h1 := hM.kept (grown_new hal2) (by simp)
        have h2 := hm5.keep hal2
        exact ⟨h1.kept hgn (fun e => by have := Option.some.inj e; omega), cell_of_row _ _ 0 _ _ _ (h2.kept hgn (fun e => by have := Option.some.inj e; omega))⟩
      have HWM := Lib.hid wm
      clear wm
      have s012 : ∀ (Yn : World) (v1 : Value), Rd Yn (w.heap.size + 1 + 1) v1 (i : Nat) df vc vr → Wd Yn X.heap.size (pcs 32 x) 1 v1 → X2.grownBy Yn (some (w.heap.size + 1 + 1)) → wpAnyIn Fence.wide (20 - 1 - 1) Tryz.prog .any ops Q 2 #[true, true, true, false, false] { tmps := #[.string s, undef, .pointer (some ⟨w.heap.size, 0, none⟩), .pointer (some ⟨w.heap.size + 1, 0, none⟩), .pointer (some ⟨w.heap.size + 1 + 1, 0, none⟩), .pointer (some ⟨X1.heap.size, 0, none⟩), .string lines, .bool true, .int .i64 (i : Nat), .string x, undef, .func (.func 89) #[] #[.pointer (some ⟨w.heap.size + 1, 0, none⟩)], .map (some (w.heap.size + 3)), .tuple #[.string lines, .bool true], .string s, .tuple #[.string lines, .bool true], .string lines, .bool true, .bool true, .tuple #[], .string lines, .func (.func 87) #[] #[.pointer (some ⟨X1.heap.size + 1, 0, none⟩)], .int .i64 (i : Nat), .string x, .int .i64 (i : Nat), .string x, .slice (some ⟨X.heap.size, 0, none⟩) N N, .pointer (some ⟨w.heap.size + 1 + 1, 1, none⟩), .pointer (some ⟨w.heap.size + 1 + 1, 0, none⟩), .map (some (w.heap.size + 3)), .pointer (some ⟨w.heap.size + 1 + 1, 0, none⟩), .string sClr, undef, undef, undef, undef, undef, undef, undef, undef, undef, undef, undef, undef, undef], defers := [] } Yn := by
        intro Yn v1 hRn hbn hgn
        have hlk := look Yn (HWM.out Yn hgn).1
        refine wpAnyIn_ready (rs := [3]) (by rw [← Hops.out]; kernel_rfl) (by simp) ?_
        refine AllReadyIn.cons p3 (fun K hK => ?_) AllReadyIn.nil
        simp only [List.setIfInBounds_toArray, List.set_cons_zero, List.set_cons_succ] at hK
        go_simp
        refine hK _ _ ?_
        clear hK K
        refine wpAnyIn_ready (rs := [4]) (by rw [← Hops.out]; kernel_rfl) (by simp) ?_
        refine AllReadyIn.cons p4 (fun K hK => ?_) AllReadyIn.nil
        simp only [List.setIfInBounds_toArray, List.set_cons_zero, List.set_cons_succ] at hK
        go_simp
        refine hK _ _ ?_
        clear hK K
        exact wpAnyIn_done (by rw [← Hops.out]; kernel_rfl) (HREST.out Yn v1 hRn hbn hgn) _
      have HY0 := Lib.hid (show Rd WY (w.heap.size + 1 + 1) (.slice (some ⟨X.heap.size, 0, none⟩) N N) (i : Nat) df vc vr ∧ Wd WY X.heap.size (pcs 32 x) 0 (.slice (some ⟨X.heap.size, 0, none⟩) N N) ∧ X2.grownBy WY (some (w.heap.size + 1 + 1)) from HY1.out)
      have c5Y := (HWM.out WY HY0.out.2.2).2
      have s01 : wpAnyIn Fence.wide (20 - 1 - 1) Tryz.prog .any ops Q 3 #[true, true, false, false, false] { tmps := #[.string s, undef, .pointer (some ⟨w.heap.size, 0, none⟩), .pointer (some ⟨w.heap.size + 1, 0, none⟩), .pointer (some ⟨w.heap.size + 1 + 1, 0, none⟩), .pointer (some ⟨X1.heap.size, 0, none⟩), .string lines, .bool true, .int .i64 (i : Nat), .string x, undef, .func (.func 89) #[] #[.pointer (some ⟨w.heap.size + 1, 0, none⟩)], .map (some (w.heap.size + 3)), .tuple #[.string lines, .bool true], .string s, .tuple #[.string lines, .bool true], .string lines, .bool true, .bool true, .tuple #[], .string lines, .func (.func 87) #[] #[.pointer (some ⟨X1.heap.size + 1, 0, none⟩)], .int .i64 (i : Nat), .string x, .int .i64 (i : Nat), .string x, .slice (some ⟨X.heap.size, 0, none⟩) N N, .pointer (some ⟨w.heap.size + 1 + 1, 1, none⟩), .pointer (some ⟨w.heap.size + 1 + 1, 0, none⟩), .map (some (w.heap.size + 3)), .pointer (some ⟨w.heap.size + 1 + 1, 0, none⟩), undef, undef, undef, undef, undef, undef, undef, undef, undef, undef, undef, undef, undef, undef], defers := [] } WY := by
        refine wpAnyIn_ready (rs := [2]) (by rw [← Hops.out]; kernel_rfl) (by simp) ?_
        refine AllReadyIn.cons p2 (fun K hK => ?_) AllReadyIn.nil
        simp only [List.setIfInBounds_toArray, List.set_cons_zero, List.set_cons_succ] at hK
        go_simp
        refine ⟨trivial, (callsIn_wide.2 (next_ok (w.heap.size + 1 + 1) X.heap.size 0 (pcs 32 x) sClr _ (i : Nat) df vc vr _ HY0.out.1 HY0.out.2.1 (by rw [hcs]; rfl))).mono ?_⟩
        rintro e Yn ⟨rfl, v1, hRn, hbn, hgn⟩
        exact hK _ _ (s012 Yn v1 hRn hbn (grown_both HY0.out.2.2 hgn))
      have s12 : ∀ (Yn : World) (v1 : Value), Rd Yn (w.heap.size + 1 + 1) v1 (i : Nat) df vc vr → Wd Yn X.heap.size (pcs 32 x) 1 v1 → X2.grownBy Yn (some (w.heap.size + 1 + 1)) → wpAnyIn Fence.wide (20 - 1 - 1) Tryz.prog .any ops Q 3 #[false, true, true, false, false] { tmps := #[.string s, undef, .pointer (some ⟨w.heap.size, 0, none⟩), .pointer (some ⟨w.heap.size + 1, 0, none⟩), .pointer (some ⟨w.heap.size + 1 + 1, 0, none⟩), .pointer (some ⟨X1.heap.size, 0, none⟩), .string lines, .bool true, .int .i64 (i : Nat), .string x, undef, .func (.func 89) #[] #[.pointer (some ⟨w.heap.size + 1, 0, none⟩)], .map (some (w.heap.size + 3)), .tuple #[.string lines, .bool true], .string s, .tuple #[.string lines, .bool true], .string lines, .bool true, .bool true, .tuple #[], .string lines, .func (.func 87) #[] #[.pointer (some ⟨X1.heap.size + 1, 0, none⟩)], .int .i64 (i : Nat), .string x, .int .i64 (i : Nat), .string x, .slice (some ⟨X.heap.size, 0, none⟩) N N, .pointer (some ⟨w.heap.size + 1 + 1, 1, none⟩), .pointer (some ⟨w.heap.size + 1 + 1, 0, none⟩), undef, .pointer (some ⟨w.heap.size + 1 + 1, 0, none⟩), .string sClr, undef, undef, undef, undef, undef, undef, undef, undef, undef, undef, undef, undef, undef], defers := [] } Yn := by
        intro Yn v1 hRn hbn hgn
        have c5n := (HWM.out Yn hgn).2
        refine wpAnyIn_ready (rs := [0]) (by rw [← Hops.out]; kernel_rfl) (by simp) ?_
        refine AllReadyIn.cons p0 (fun K hK => ?_) AllReadyIn.nil
        simp only [List.setIfInBounds_toArray, List.set_cons_zero, List.set_cons_succ] at hK
        go_simp
        exact hK _ _ (s012 Yn v1 hRn hbn hgn)
      have s1 : wpAnyIn Fence.wide (20 - 1 - 1) Tryz.prog .any ops Q 4 #[false, true, false, false, false] { tmps := #[.string s, undef, .pointer (some ⟨w.heap.size, 0, none⟩), .pointer (some ⟨w.heap.size + 1, 0, none⟩), .pointer (some ⟨w.heap.size + 1 + 1, 0, none⟩), .pointer (some ⟨X1.heap.size, 0, none⟩), .string lines, .bool true, .int .i64 (i : Nat), .string x, undef, .func (.func 89) #[] #[.pointer (some ⟨w.heap.size + 1, 0, none⟩)], .map (some (w.heap.size + 3)), .tuple #[.string lines, .bool true], .string s, .tuple #[.string lines, .bool true], .string lines, .bool true, .bool true, .tuple #[], .string lines, .func (.func 87) #[] #[.pointer (some ⟨X1.heap.size + 1, 0, none⟩)], .int .i64 (i : Nat), .string x, .int .i64 (i : Nat), .string x, .slice (some ⟨X.heap.size, 0, none⟩) N N, .pointer (some ⟨w.heap.size + 1 + 1, 1, none⟩), .pointer (some ⟨w.heap.size + 1 + 1, 0, none⟩), undef, .pointer (some ⟨w.heap.size + 1 + 1, 0, none⟩), undef, undef, undef, undef, undef, undef, undef, undef, undef, undef, undef, undef, undef, undef], defers := [] } WY := by
        refine wpAnyIn_ready (rs := [0, 2]) (by rw [← Hops.out]; kernel_rfl) (by simp) ?_
        refine AllReadyIn.cons p0 (fun K hK => ?_) (AllReadyIn.cons p2 (fun K hK => ?_) AllReadyIn.nil)
        · simp only [List.setIfInBounds_toArray, List.set_cons_zero, List.set_cons_succ] at hK
          go_simp
          exact hK _ _ s01
        · simp only [List.setIfInBounds_toArray, List.set_cons_zero, List.set_cons_succ] at hK
          go_simp
          refine ⟨trivial, (callsIn_wide.2 (next_ok (w.heap.size + 1 + 1) X.heap.size 0 (pcs 32 x) sClr _ (i : Nat) df vc vr _ HY0.out.1 HY0.out.2.1 (by rw [hcs]; rfl))).mono ?_⟩
          rintro e Yn ⟨rfl, v1, hRn, hbn, hgn⟩
          exact hK _ _ (s12 Yn v1 hRn hbn (grown_both HY0.out.2.2 hgn))
      refine wpAnyIn_ready (rs := [0, 1]) (by rw [← Hops.out]; kernel_rfl) (by simp) ?_
      refine AllReadyIn.cons p0 (fun K hK => ?_) (AllReadyIn.cons p1 (fun K hK => ?_) AllReadyIn.nil)
      · simp only [List.setIfInBounds_toArray, List.set_cons_zero, List.set_cons_succ] at hK
        go_simp
        refine hK _ _ ?_
        clear hK K
        refine wpAnyIn_ready (rs := [1]) (by rw [← Hops.out]; kernel_rfl) (by simp) ?_
        refine AllReadyIn.cons p1 (fun K hK => ?_) AllReadyIn.nil
        simp only [List.setIfInBounds_toArray, List.set_cons_zero, List.set_cons_succ] at hK
        go_simp
        exact hK _ _ s01
      · simp only [List.setIfInBounds_toArray, List.set_cons_zero, List.set_cons_succ] at hK
        go_simp
        exact hK _ _ s1
    · have HS2 := Lib.hid hst2e
      clear hst2e HI
      refine wpIn_region_round l2 (by kernel_rfl) (by kernel_rfl) ?_
      refine any_gn 5 #[false, false, false, false, false] rfl rfl (fun ops Q hops hQ => ?_)
      have Hops := Lib.hid hops.out
      have p0 := congrArg (fun o : Array Oper => o[0]?) hops.out.symm
      have p1 := congrArg (fun o : Array Oper => o[1]?) hops.out.symm
      have p2 := congrArg (fun o : Array Oper => o[2]?) hops.out.symm
      have p3 := congrArg (fun o : Array Oper => o[3]?) hops.out.symm
      have p4 := congrArg (fun o : Array Oper => o[4]?) hops.out.symm
      simp only [List.getElem?_toArray, List.getElem?_cons_zero, List.getElem?_cons_succ] at p0 p1 p2 p3 p4
      clear hops
      rw [hYe.out]
      have rest : ∀ (Yn : World) (v1 : Value), Rd Yn (w.heap.size + 1 + 1) v1 (i : Nat) df vc vr → Wd Yn X.heap.size (pcs 32 x) 1 v1 → X2.grownBy Yn (some (w.heap.size + 1 + 1)) → Q .normal { tmps := #[.string s, undef, .pointer (some ⟨w.heap.size, 0, none⟩), .pointer (some ⟨w.heap.size + 1, 0, none⟩), .pointer (some ⟨w.heap.size + 1 + 1, 0, none⟩), .pointer (some ⟨X1.heap.size, 0, none⟩), .string lines, .bool true, .int .i64 (i : Nat), .string x, (.func (.func 121) #[] #[]), .func (.func 89) #[] #[.pointer (some ⟨w.heap.size + 1, 0, none⟩)], .map (some (w.heap.size + 3)), .tuple #[.string lines, .bool true], .string s, .tuple #[.string lines, .bool true], .string lines, .bool true, .bool true, .tuple #[], .string lines, .func (.func 87) #[] #[.pointer (some ⟨X1.heap.size + 1, 0, none⟩)], .int .i64 (i : Nat), .string x, .int .i64 (i : Nat), .string x, .slice (some ⟨X.heap.size, 0, none⟩) N N, .pointer (some ⟨w.heap.size + 1 + 1, 1, none⟩), .pointer (some ⟨w.heap.size + 1 + 1, 0, none⟩), .map (some (w.heap.size + 3)), .pointer (some ⟨w.heap.size + 1 + 1, 0, none⟩), .string sRel, (.func (.func 121) #[] #[]), undef, undef, undef, undef, undef, undef, undef, undef, undef, undef, undef, undef], defers := [] } Yn := by
        rw [← hQ.out]
        intro Yn v1 hRn hbn hgn
        obtain ⟨hR2, kb2, hal2, hC, hRr, hvr, hoc, hor, hdis, hM, hm5, hP, hE, hB, hN, hN32⟩ := HB.out
        obtain ⟨hst2, hb1, hb2, hpl, hpl2, hXs⟩ := HL.out
        have hs2 := hal2.size
        have hsn := hgn.size
        have hBn : Below w.heap.size w Yn := (hB.trans (hal2.mono hB.size)).grown hgn (Nat.le_trans hB.size hs2) (fun k e => by cases e; omega)
        have hTSn : ∀ w', Yn.grownBy w' (some (w.heap.size + 1 + 1)) → TZ w' := fun w' h => HT.out.2 w' (hBn.grown h hBn.size (fun k e => by cases e; omega))
        have kXn : KeptM (fun k => k < W0.heap.size + 9 ∧ k ≠ (w.heap.size + 1 + 1)) X Yn := (KeptM.new hal2).trans (KeptM.grown hgn (fun r e h => by cases e; exact h.2 rfl))
        have kXa : KeptM (fun k => k ≠ (w.heap.size + 1 + 1)) X Yn := (KeptM.new hal2).trans (KeptM.grown hgn (fun r e h => by cases e; exact h rfl))
        have hBXn : Below w.heap.size X Yn := (hal2.mono hB.size).grown hgn (Nat.le_trans hB.size hs2) (fun k e => by cases e; omega)
        have hCn : OwC Yn w.heap.size vc ls := ⟨own_keptM hC.1 kXa (fun g e => by have := hoc g e; omega), hC.2⟩
        have hRrn : OwR Yn w.heap.size vr rs := ⟨own_keptM hRr.1 kXa (fun g e => by have := hor g e; omega), hRr.2⟩
        have hown : vr.ownBlock ≠ some (w.heap.size + 1 + 1) ∧ vr.ownBlock ≠ some X.heap.size := ⟨fun e => by have := hor _ e; omega, fun e => by have := (hRr.1.lt _ e).2; omega⟩
        have hnf : ∀ Y, (binOp .neq 146 (.func (.func 121) #[] #[]) .nilFunc).run Tryz.prog Y = .ok (.bool true) Y := fun Y => by kernel_rfl
        have HCALL := Lib.hid (release_okT (w.heap.size + 1 + 1) X.heap.size 1 e0 _ w.heap.size _ T ue u v1 i df vc vr rs Yn hRn hbn hi0 (by rw [hcs]; rfl) (by rw [hcs]; rfl) (by rw [hcs]; rfl) hue he0 hpu (fun X h => hnum X (HT10.out X (hBn.grown h hBn.size (fun k e => by cases e; omega)))) hl hok hu he rfl hTSn (by omega) hBn.size hRrn hown (labV_lt _) hb2)
        have HY := Lib.hid (show _ ∧ _ ∧ _ ∧ _ ∧ _ from ⟨kXn, hBXn, hCn, hRrn, hsn⟩)
        clear hRn hbn hgn hR2 kb2 hal2 hC hRr hvr hoc hor hdis hM hm5 hP hE hB hN hN32 hst2 hb1 hb2 hpl hpl2 hXs hBn hTSn kXn kXa hBXn hCn hRrn hs2 hsn
        gi_wp2_with fail
        refine ⟨trivial, (show CallsIn (Fence.wide.inRound _) 17 _ _ _ _ _ from callsIn_wide.2 (need_b _ rfl _)).mono ?_⟩
        rintro e Y2 ⟨rfl, rfl⟩
        rename_i K1 hK1
        refine hK1 _ _ ?_
        clear hK1 K1
        gi_wp2_with fail
        refine ⟨trivial, (show CallsIn (Fence.wide.inRound _) 17 _ _ _ _ _ from callsIn_wide.2 (HCALL.out)).mono ?_⟩
        rintro e Z ⟨rfl, v2, vr2, hRz, hbz, hRrz, hoz, hBz, hKz⟩
        rename_i K1 hK1
        refine hK1 _ _ ?_
        clear hK1 K1 HCALL
        obtain ⟨xw, cw, rfl⟩ : ∃ xw cw, v2 = .slice xw 0 cw := by
          obtain ⟨_, _, _, xw, cw, e, _⟩ := hbz
          exact ⟨xw, cw, by rw [e, hcs]; rfl⟩
        have z0 : Z.cell? ⟨w.heap.size + 1 + 1, 0, none⟩ = some (.slice xw 0 cw) := cell_of_row Z _ 0 _ _ _ hRz
        have hfin : KeptM (fun k => W0.heap.size ≤ k ∧ k < W0.heap.size + 9) X Z ∧ Below w.heap.size X Z ∧ RI w X1.heap.size W0.heap.size sts (pre ++ [(x, i)]) Z := by
          obtain ⟨kXn, hBXn, hCn, hRrn, hsn⟩ := HY.out
          obtain ⟨hR2, kb2, hal2, hC, hRr, hvr, hoc, hor, hdis, hM, hm5, hP, hE, hB, hN, hN32⟩ := HB.out
          obtain ⟨hst2, hb1, hb2, hpl, hpl2, hXs⟩ := HL.out
          have hst2z := hst2.trans HS2.out
          have hs2 := hal2.size
          have hCz : OwC Z w.heap.size vc ls := ⟨own_keptM hCn.1 hKz (fun g e => ⟨by have := hoc g e; omega, hdis g e⟩), hCn.2⟩
          have hnew : ∀ g, vr2.ownBlock = some g → vr.ownBlock = some g ∨ Yn.heap.size ≤ g := fun g e => by
            rcases hoz with h | ⟨g2, h, h2⟩
            · exact .inl (h.symm.trans e)
            · rw [h] at e; cases e; exact .inr h2
          exact line_end (by omega) (by omega) hs1 hpl2 hst2z hRz hCz hRrz (fun e => by simp at e) ⟨hoc, fun g e => (hnew g e).elim (hor g) (fun h => by omega), fun g e e2 => (hnew g e2).elim (fun h => hdis g e h) (fun h => by have := (hCn.1.lt g e).2; omega)⟩ hM hm5 hP hE hB (kXn.trans (hKz.mono (fun k (h : k < W0.heap.size + 9 ∧ k ≠ w.heap.size + 1 + 1) => ⟨h.2, fun e => by have := hor k e; omega⟩))) (hBXn.trans hBz)
        have HF := Lib.hid hfin
        clear hfin HY hRz hbz hRrz hoz hBz hKz
        gi_wp2_with fail
        refine ⟨trivial, (show CallsIn (Fence.wide.inRound _) 17 _ _ _ _ _ from callsIn_wide.2 (need_b _ rfl _)).mono ?_⟩
        rintro e Z2 ⟨rfl, rfl⟩
        rename_i K1 hK1
        refine hK1 _ _ ?_
        clear hK1 K1
        gi_wp2_with fail
        exact ⟨HF.out.1.mono (fun k h => (hHq k).1 h), HF.out.2⟩
      have HREST := Lib.hid rest
      clear rest
      have look : ∀ Yn : World, WM Yn (w.heap.size + 3) → (Instr.lookup 142 (.map (some (w.heap.size + 3))) (.string sRel) false).run Tryz.prog Yn = .ok (.func (.func 121) #[] #[]) Yn := fun Yn h => look_str _ _ _ _ _ _ Yn h find_rel
      have wm : ∀ Yn : World, X2.grownBy Yn (some (w.heap.size + 1 + 1)) → WM Yn (w.heap.size + 3) ∧ Yn.cell? ⟨X1.heap.size, 0, none⟩ = some (.map (some (w.heap.size + 3))) := fun Yn hgn => by
        obtain ⟨hR2, kb2, hal2, hC, hRr, hvr, hoc, hor, hdis, hM, hm5, hP, hE, hB, hN, hN32⟩ := HB.out
        have h1 := hM.kept (grown_new hal2) (by simp)
        have h2 := hm5.keep hal2
        exact ⟨h1.kept hgn (fun e => by have := Option.some.inj e; omega), cell_of_row _ _ 0 _ _ _ (h2.kept hgn (fun e => by have := Option.some.inj e; omega))⟩
      have HWM := Lib.hid wm
      clear wm
      have s012 : ∀ (Yn : World) (v1 : Value), Rd Yn (w.heap.size + 1 + 1) v1 (i : Nat) df vc vr → Wd Yn X.heap.size (pcs 32 x) 1 v1 → X2.grownBy Yn (some (w.heap.size + 1 + 1)) → wpAnyIn Fence.wide (20 - 1 - 1) Tryz.prog .any ops Q 2 #[true, true, true, false, false] { tmps := #[.string s, undef, .pointer (some ⟨w.heap.size, 0, none⟩), .pointer (some ⟨w.heap.size + 1, 0, none⟩), .pointer (some ⟨w.heap.size + 1 + 1, 0, none⟩), .pointer (some ⟨X1.heap.size, 0, none⟩), .string lines, .bool true, .int .i64 (i : Nat), .string x, undef, .func (.func 89) #[] #[.pointer (some ⟨w.heap.size + 1, 0, none⟩)], .map (some (w.heap.size + 3)), .tuple #[.string lines, .bool true], .string s, .tuple #[.string lines, .bool true], .string lines, .bool true, .bool true, .tuple #[], .string lines, .func (.func 87) #[] #[.pointer (some ⟨X1.heap.size + 1, 0, none⟩)], .int .i64 (i : Nat), .string x, .int .i64 (i : Nat), .string x, .slice (some ⟨X.heap.size, 0, none⟩) N N, .pointer (some ⟨w.heap.size + 1 + 1, 1, none⟩), .pointer (some ⟨w.heap.size + 1 + 1, 0, none⟩), .map (some (w.heap.size + 3)), .pointer (some ⟨w.heap.size + 1 + 1, 0, none⟩), .string sRel, undef, undef, undef, undef, undef, undef, undef, undef, undef, undef, undef, undef, undef], defers := [] } Yn := by
        intro Yn v1 hRn hbn hgn
        have hlk := look Yn (HWM.out Yn hgn).1
        refine wpAnyIn_ready (rs := [3]) (by rw [← Hops.out]; kernel_rfl) (by simp) ?_
        refine AllReadyIn.cons p3 (fun K hK => ?_) AllReadyIn.nil
        simp only [List.setIfInBounds_toArray, List.set_cons_zero, List.set_cons_succ] at hK
        go_simp
        refine hK _ _ ?_
        clear hK K
        refine wpAnyIn_ready (rs := [4]) (by rw [← Hops.out]; kernel_rfl) (by simp) ?_
        refine AllReadyIn.cons p4 (fun K hK => ?_) AllReadyIn.nil
        simp only [List.setIfInBounds_toArray, List.set_cons_zero, List.set_cons_succ] at hK
        go_simp
        refine hK _ _ ?_
        clear hK K
        exact wpAnyIn_done (by rw [← Hops.out]; kernel_rfl) (HREST.out Yn v1 hRn hbn hgn) _
      have HY0 := Lib.hid (show Rd WY (w.heap.size + 1 + 1) (.slice (some ⟨X.heap.size, 0, none⟩) N N) (i : Nat) df vc vr ∧ Wd WY X.heap.size (pcs 32 x) 0 (.slice (some ⟨X.heap.size, 0, none⟩) N N) ∧ X2.grownBy WY (some (w.heap.size + 1 + 1)) from HY1.out)
      have c5Y := (HWM.out WY HY0.out.2.2).2
      have s01 : wpAnyIn Fence.wide (20 - 1 - 1) Tryz.prog .any ops Q 3 #[true, true, false, false, false] { tmps := #[.string s, undef, .pointer (some ⟨w.heap.size, 0, none⟩), .pointer (some ⟨w.heap.size + 1, 0, none⟩), .pointer (some ⟨w.heap.size + 1 + 1, 0, none⟩), .pointer (some ⟨X1.heap.size, 0, none⟩), .string lines, .bool true, .int .i64 (i : Nat), .string x, undef, .func (.func 89) #[] #[.pointer (some ⟨w.heap.size + 1, 0, none⟩)], .map (some (w.heap.size + 3)), .tuple #[.string lines, .bool true], .string s, .tuple #[.string lines, .bool true], .string lines, .bool true, .bool true, .tuple #[], .string lines, .func (.func 87) #[] #[.pointer (some ⟨X1.heap.size + 1, 0, none⟩)], .int .i64 (i : Nat), .string x, .int .i64 (i : Nat), .string x, .slice (some ⟨X.heap.size, 0, none⟩) N N, .pointer (some ⟨w.heap.size + 1 + 1, 1, none⟩), .pointer (some ⟨w.heap.size + 1 + 1, 0, none⟩), .map (some (w.heap.size + 3)), .pointer (some ⟨w.heap.size + 1 + 1, 0, none⟩), undef, undef, undef, undef, undef, undef, undef, undef, undef, undef, undef, undef, undef, undef], defers := [] } WY := by
        refine wpAnyIn_ready (rs := [2]) (by rw [← Hops.out]; kernel_rfl) (by simp) ?_
        refine AllReadyIn.cons p2 (fun K hK => ?_) AllReadyIn.nil
        simp only [List.setIfInBounds_toArray, List.set_cons_zero, List.set_cons_succ] at hK
        go_simp
        refine ⟨trivial, (callsIn_wide.2 (next_ok (w.heap.size + 1 + 1) X.heap.size 0 (pcs 32 x) sRel _ (i : Nat) df vc vr _ HY0.out.1 HY0.out.2.1 (by rw [hcs]; rfl))).mono ?_⟩
        rintro e Yn ⟨rfl, v1, hRn, hbn, hgn⟩
        exact hK _ _ (s012 Yn v1 hRn hbn (grown_both HY0.out.2.2 hgn))
      have s12 : ∀ (Yn : World) (v1 : Value), Rd Yn (w.heap.size + 1 + 1) v1 (i : Nat) df vc vr → Wd Yn X.heap.size (pcs 32 x) 1 v1 → X2.grownBy Yn (some (w.heap.size + 1 + 1)) → wpAnyIn Fence.wide (20 - 1 - 1) Tryz.prog .any ops Q 3 #[false, true, true, false, false] { tmps := #[.string s, undef, .pointer (some ⟨w.heap.size, 0, none⟩), .pointer (some ⟨w.heap.size + 1, 0, none⟩), .pointer (some ⟨w.heap.size + 1 + 1, 0, none⟩), .pointer (some ⟨X1.heap.size, 0, none⟩), .string lines, .bool true, .int .i64 (i : Nat), .string x, undef, .func (.func 89) #[] #[.pointer (some ⟨w.heap.size + 1, 0, none⟩)], .map (some (w.heap.size + 3)), .tuple #[.string lines, .bool true], .string s, .tuple #[.string lines, .bool true], .string lines, .bool true, .bool true, .tuple #[], .string lines, .func (.func 87) #[] #[.pointer (some ⟨X1.heap.size + 1, 0, none⟩)], .int .i64 (i : Nat), .string x, .int .i64 (i : Nat), .string x, .slice (some ⟨X.heap.size, 0, none⟩) N N, .pointer (some ⟨w.heap.size + 1 + 1, 1, none⟩), .pointer (some ⟨w.heap.size + 1 + 1, 0, none⟩), undef, .pointer (some ⟨w.heap.size + 1 + 1, 0, none⟩), .string sRel, undef, undef, undef, undef, undef, undef, undef, undef, undef, undef, undef, undef, undef], defers := [] } Yn := by
        intro Yn v1 hRn hbn hgn
        have c5n := (HWM.out Yn hgn).2
        refine wpAnyIn_ready (rs := [0]) (by rw [← Hops.out]; kernel_rfl) (by simp) ?_
        refine AllReadyIn.cons p0 (fun K hK => ?_) AllReadyIn.nil
        simp only [List.setIfInBounds_toArray, List.set_cons_zero, List.set_cons_succ] at hK
        go_simp
        exact hK _ _ (s012 Yn v1 hRn hbn hgn)
      have s1 : wpAnyIn Fence.wide (20 - 1 - 1) Tryz.prog .any ops Q 4 #[false, true, false, false, false] { tmps := #[.string s, undef, .pointer (some ⟨w.heap.size, 0, none⟩), .pointer (some ⟨w.heap.size + 1, 0, none⟩), .pointer (some ⟨w.heap.size + 1 + 1, 0, none⟩), .pointer (some ⟨X1.heap.size, 0, none⟩), .string lines, .bool true, .int .i64 (i : Nat), .string x, undef, .func (.func 89) #[] #[.pointer (some ⟨w.heap.size + 1, 0, none⟩)], .map (some (w.heap.size + 3)), .tuple #[.string lines, .bool true], .string s, .tuple #[.string lines, .bool true], .string lines, .bool true, .bool true, .tuple #[], .string lines, .func (.func 87) #[] #[.pointer (some ⟨X1.heap.size + 1, 0, none⟩)], .int .i64 (i : Nat), .string x, .int .i64 (i : Nat), .string x, .slice (some ⟨X.heap.size, 0, none⟩) N N, .pointer (some ⟨w.heap.size + 1 + 1, 1, none⟩), .pointer (some ⟨w.heap.size + 1 + 1, 0, none⟩), undef, .pointer (some ⟨w.heap.size + 1 + 1, 0, none⟩), undef, undef, undef, undef, undef, undef, undef, undef, undef, undef, undef, undef, undef, undef], defers := [] } WY := by
        refine wpAnyIn_ready (rs := [0, 2]) (by rw [← Hops.out]; kernel_rfl) (by simp) ?_
        refine AllReadyIn.cons p0 (fun K hK => ?_) (AllReadyIn.cons p2 (fun K hK => ?_) AllReadyIn.nil)
        · simp only [List.setIfInBounds_toArray, List.set_cons_zero, List.set_cons_succ] at hK
          go_simp
          exact hK _ _ s01
        · simp only [List.setIfInBounds_toArray, List.set_cons_zero, List.set_cons_succ] at hK
          go_simp
          refine ⟨trivial, (callsIn_wide.2 (next_ok (w.heap.size + 1 + 1) X.heap.size 0 (pcs 32 x) sRel _ (i : Nat) df vc vr _ HY0.out.1 HY0.out.2.1 (by rw [hcs]; rfl))).mono ?_⟩
          rintro e Yn ⟨rfl, v1, hRn, hbn, hgn⟩
          exact hK _ _ (s12 Yn v1 hRn hbn (grown_both HY0.out.2.2 hgn))
      refine wpAnyIn_ready (rs := [0, 1]) (by rw [← Hops.out]; kernel_rfl) (by simp) ?_
      refine AllReadyIn.cons p0 (fun K hK => ?_) (AllReadyIn.cons p1 (fun K hK => ?_) AllReadyIn.nil)
      · simp only [List.setIfInBounds_toArray, List.set_cons_zero, List.set_cons_succ] at hK
        go_simp
        refine hK _ _ ?_
        clear hK K
        refine wpAnyIn_ready (rs := [1]) (by rw [← Hops.out]; kernel_rfl) (by simp) ?_
        refine AllReadyIn.cons p1 (fun K hK => ?_) AllReadyIn.nil
        simp only [List.setIfInBounds_toArray, List.set_cons_zero, List.set_cons_succ] at hK
        go_simp
        exact hK _ _ s01
      · simp only [List.setIfInBounds_toArray, List.set_cons_zero, List.set_cons_succ] at hK
        go_simp
        exact hK _ _ s1
end Go.Proofs.YtenepkgjdoddgaaGreatDoor

/- policy's laws: a policy's text is read back. -/
namespace Go.Proofs.YtenepkgjdoddgaaGreatDoor
open Go.RowKit Go.Shelf

/-! Texts cut. -/
theorem index_at (c : UInt8) (r : List UInt8) : ∀ x : List UInt8, c ∉ x → Lib.index (x ++ c :: r) [c] = (x.length : Nat)
  | [], _ => by rw [List.nil_append, Lib.index]; simp [List.isPrefixOf]
  | b :: x, h => by
    have hb : c ≠ b := fun e => h (by simp [e])
    have ih := index_at c r x (fun m => h (by simp [m]))
    have hp : ([c] : List UInt8).isPrefixOf (b :: (x ++ c :: r)) = false := by simp [List.isPrefixOf, hb]
    rw [List.cons_append, Lib.index, hp, ih]
    simp
theorem count_app (c : UInt8) (x r : List UInt8) (h : c ∉ x) : Lib.count (x ++ c :: r) [c] = Lib.count r [c] + 1 := by
  rw [Lib.count_one, Lib.count_one, List.count_append, List.count_cons_self, List.count_eq_zero.2 h, Nat.zero_add]
theorem split_step (c : UInt8) (x r : List UInt8) (h : c ∉ x) : Lib.split (x ++ c :: r) [c] = x :: Lib.split r [c] := by
  unfold Lib.split
  rw [count_app c x r h, Lib.splitK, index_at c r x h, if_neg (by simp)]
  simp only [Int.toNat_natCast, Nat.add_zero, List.length_singleton]
  rw [List.take_left' rfl, List.drop_append, List.drop_of_length_le (by omega), show x.length + 1 - x.length = 1 by omega]
  rfl
theorem split_none (c : UInt8) (x : List UInt8) (h : c ∉ x) : Lib.split x [c] = [x] := by
  unfold Lib.split
  rw [Lib.count_one, List.count_eq_zero.2 h]
  rfl
/-- Lines between their ends, without the last one. -/
def lnsB : List (List UInt8) → List UInt8
  | [] => []
  | [x] => x
  | x :: y :: r => x ++ 10 :: lnsB (y :: r)
theorem lnsB_end : ∀ (l : List (List UInt8)), l ≠ [] → l.flatMap endL = lnsB l ++ [10]
  | [], h => (h rfl).elim
  | [x], _ => by simp [lnsB, endL]
  | x :: y :: r, _ => by
    have ih := lnsB_end (y :: r) (by simp)
    rw [List.flatMap_cons, ih]
    simp [lnsB, endL]
theorem lnsB_split : ∀ (l : List (List UInt8)), l ≠ [] → (∀ x ∈ l, (10 : UInt8) ∉ x) → Lib.split (lnsB l) [10] = l
  | [], h, _ => (h rfl).elim
  | [x], _, h => split_none 10 x (h x (by simp))
  | x :: y :: r, _, h => by
    rw [lnsB, split_step 10 x _ (h x (by simp)), lnsB_split (y :: r) (by simp) (fun z hz => h z (by simp [hz]))]
theorem trim_end (l : List UInt8) : Lib.trimSuffix (l ++ [10]) [10] = l ∧ Lib.hasSuffix (l ++ [10]) [10] = true := by
  have h : Lib.hasSuffix (l ++ [10]) [10] = true := by unfold Lib.hasSuffix; rw [List.isSuffixOf_iff_suffix]; exact List.suffix_append _ _
  refine ⟨?_, h⟩
  unfold Lib.trimSuffix
  rw [if_pos h]
  simp
/-! Numbers read back. -/
theorem pu_app (M : Nat) (r : List UInt8) : ∀ (l : List UInt8) (acc a : Nat), Lib.parseUintM M acc l = .ok a → Lib.parseUintM M acc (l ++ r) = Lib.parseUintM M a r
  | [], acc, a, h => by
    rw [Lib.parseUintM] at h
    injection h with h
    subst h
    rfl
  | c :: l, acc, a, h => by
    rw [Lib.parseUintM] at h
    rw [List.cons_append, Lib.parseUintM]
    split at h
    · rename_i h1
      rw [if_pos h1]
      split at h
      · cases h
      · rename_i h2
        rw [if_neg h2]
        split at h
        · cases h
        · rename_i h3
          rw [if_neg h3]
          exact pu_app M r l _ a h
    · cases h
theorem pu_dd (n : Nat) (hn : n < 4294967296) : Lib.parseUintM 4294967295 0 (Lib.decDigits n) = .ok n := by
  induction n using Nat.strongRecOn with
  | _ u ih =>
    have hd : ∀ k, k < 10 → (UInt8.ofNat (48 + k)).toNat = 48 + k := fun k hk => by
      rw [UInt8.toNat_ofNat']
      exact Nat.mod_eq_of_lt (by omega)
    have one : ∀ (acc k : Nat), acc < 1844674407370955162 → k < 10 → acc * 10 + k ≤ 4294967295 → Lib.parseUintM 4294967295 acc [UInt8.ofNat (48 + k)] = .ok (acc * 10 + k) := fun acc k h1 h2 h3 => by
      rw [Lib.parseUintM, hd k h2, if_pos (by omega), if_neg (by omega), show 48 + k - 48 = k by omega, if_neg (by omega), Lib.parseUintM]
    rw [Lib.decDigits]
    split
    · next h =>
      have := one 0 u (by omega) h (by omega)
      rwa [Nat.zero_mul, Nat.zero_add] at this
    · next h =>
      rw [pu_app _ _ _ _ _ (ih (u / 10) (by omega) (by omega)), one (u / 10) (u % 10) (by omega) (by omega) (by omega)]
      exact congrArg _ (by omega)
theorem pu_all (n : Nat) (hn : n < 4294967296) : Lib.parseUintB 32 (Lib.decDigits n) = .ok n := by
  unfold Lib.parseUintB
  rw [if_neg (fun e => by have := (decDigits_len hn).1; rw [e] at this; simp at this)]
  exact pu_dd n hn
/-! The lines of a policy. -/
theorem sp_D (d : Nat) : Lib.split (lnD d) [32] = [[100, 101, 102, 97, 117, 108, 116], txL d] := by
  unfold lnD
  rw [split_step 32 _ _ (by decide), split_none 32 _ (fun m => (okB_txL d _ m).2 rfl)]
theorem sp_C {c : List Nat × Nat} (hc : Ad c.1) : Lib.split (lnC c) [32] = [[99, 108, 101, 97, 114], nmL c.1, txL c.2] := by
  unfold lnC
  rw [split_step 32 _ _ (by decide), split_step 32 _ _ (fun m => (okB_nm hc.2 _ m).2 rfl), split_none 32 _ (fun m => (okB_txL _ _ m).2 rfl)]
theorem sp_R {c : List Nat × Nat × Nat} (hc : Ad c.1) : Lib.split (lnR c) [32] = [[114, 101, 108, 101, 97, 115, 101], nmL c.1, Lib.decDigits c.2.1, txL c.2.2] := by
  unfold lnR
  rw [split_step 32 _ _ (by decide), split_step 32 _ _ (fun m => (okB_nm hc.2 _ m).2 rfl), split_step 32 _ _ (fun m => (okB_dd _ _ m).2 rfl), split_none 32 _ (fun m => (okB_txL _ _ m).2 rfl)]
theorem ba_dat (l : List UInt8) : (ByteArray.mk l.toArray).data.toList = l := rfl
theorem ba_siz (l : List UInt8) : (ByteArray.mk l.toArray).size = l.length := by simp [ByteArray.size]
theorem step_D (d : Nat) (hd : d < 2 ^ 64) : StepOkT 0 ⟨(lnD d).toArray⟩ ⟨0, [], []⟩ ⟨d, [], []⟩ := by
  obtain ⟨h1, h2⟩ := lab_of hd (rfl : txL d = txL d)
  have h := StepOkT.dflt ⟨(lnD d).toArray⟩ ⟨(txL d).toArray⟩ 0 [] [] (pcs_of (s := ⟨(lnD d).toArray⟩) (sp_D d)) (by rw [ba_siz]; have := txL_len d; omega) h2
  rw [ba_dat, h1] at h
  exact h
theorem step_C (i d : Nat) (c : List Nat × Nat) (ls : List (List Nat × Nat)) (hi : 0 < i) (hc : Ad c.1) (hl : c.2 < 2 ^ 64) : StepOkT i ⟨(lnC c).toArray⟩ ⟨d, ls, []⟩ ⟨d, ls ++ [c], []⟩ := by
  obtain ⟨h1, h2⟩ := lab_of hl (rfl : txL c.2 = txL c.2)
  have h := StepOkT.clear i ⟨(lnC c).toArray⟩ (dgsA c.1) ⟨(txL c.2).toArray⟩ d ls hi (by rw [← nmL_dgs]; exact pcs_of (s := ⟨(lnC c).toArray⟩) (sp_C hc)) (dgsA_len hc) (dgsA_ok hc.2) (by rw [ba_siz]; have := txL_len c.2; omega) h2
  rw [ba_dat, h1, dgsA_val hc.2, low_bv hc] at h
  exact h
theorem step_R (i d : Nat) (c : List Nat × Nat × Nat) (ls : List (List Nat × Nat)) (rs : List (List Nat × Nat × Nat)) (hi : 0 < i) (hc : Ad c.1) (he : c.2.1 < 4294967296) (hl : c.2.2 < 2 ^ 64) : StepOkT i ⟨(lnR c).toArray⟩ ⟨d, ls, rs⟩ ⟨d, ls, rs ++ [c]⟩ := by
  obtain ⟨h1, h2⟩ := lab_of hl (rfl : txL c.2.2 = txL c.2.2)
  have h := StepOkT.release i ⟨(lnR c).toArray⟩ (dgsA c.1) ⟨(Lib.decDigits c.2.1).toArray⟩ ⟨(txL c.2.2).toArray⟩ c.2.1 d ls rs hi (by rw [← nmL_dgs]; exact pcs_of (s := ⟨(lnR c).toArray⟩) (sp_R hc)) (dgsA_len hc) (dgsA_ok hc.2) (by rw [ba_siz]; have := decDigits_len he; omega) he (pu_all _ he) (fun X h => number_any _ he X h) (by rw [ba_siz]; have := txL_len c.2.2; omega) h2
  rw [ba_dat, h1, dgsA_val hc.2, low_bv hc] at h
  exact h
/-- What is read when so many lines are. -/
def stP (d : Nat) (cs : List (List Nat × Nat)) (rs : List (List Nat × Nat × Nat)) : Nat → St
  | 0 => ⟨0, [], []⟩
  | i + 1 => ⟨d, cs.take i, rs.take (i - cs.length)⟩
theorem step_P (d : Nat) (cs : List (List Nat × Nat)) (rs : List (List Nat × Nat × Nat)) (hd : d < 2 ^ 64) (hc : ∀ c ∈ cs, Ad c.1 ∧ c.2 < 2 ^ 64) (hr : ∀ c ∈ rs, Ad c.1 ∧ c.2.1 < 4294967296 ∧ c.2.2 < 2 ^ 64) (i : Nat) (x : List UInt8) (hx : (lnsP d cs rs)[i]? = some x) :
    StepOkT i ⟨x.toArray⟩ (stP d cs rs i) (stP d cs rs (i + 1)) := by
  match i, hx with
  | 0, hx =>
    simp only [lnsP, List.getElem?_cons_zero, Option.some.injEq] at hx
    subst hx
    have := step_D d hd
    simpa [stP] using this
  | i + 1, hx =>
    simp only [lnsP, List.getElem?_cons_succ] at hx
    by_cases hi : i < cs.length
    · rw [List.getElem?_append_left (by rw [List.length_map]; exact hi), List.getElem?_map] at hx
      obtain ⟨c, hc1, rfl⟩ := Option.map_eq_some_iff.1 hx
      have hc2 := hc c (List.mem_of_getElem? hc1)
      have h := step_C (i + 1) d c (cs.take i) (by omega) hc2.1 hc2.2
      simp only [stP]
      rw [List.take_add_one, hc1, show i - cs.length = 0 by omega, show i + 1 - cs.length = 0 by omega]
      simpa using h
    · rw [List.getElem?_append_right (by rw [List.length_map]; omega), List.length_map, List.getElem?_map] at hx
      obtain ⟨c, hc1, rfl⟩ := Option.map_eq_some_iff.1 hx
      have hc2 := hr c (List.mem_of_getElem? hc1)
      have h := step_R (i + 1) d c (cs.take i) (rs.take (i - cs.length)) (by omega) hc2.1 hc2.2.1 hc2.2.2
      simp only [stP]
      rw [show i + 1 - cs.length = i - cs.length + 1 by omega, List.take_add_one (l := rs), hc1, List.take_of_length_le (show cs.length ≤ i + 1 by omega)]
      rw [List.take_of_length_le (show cs.length ≤ i by omega)] at h ⊢
      simpa using h
theorem lnsP_len (d : Nat) (cs : List (List Nat × Nat)) (rs : List (List Nat × Nat × Nat)) : (lnsP d cs rs).length = cs.length + rs.length + 1 := by simp [lnsP]
theorem lnsP_small {d : Nat} {cs : List (List Nat × Nat)} {rs : List (List Nat × Nat × Nat)} (hc : ∀ c ∈ cs, Ad c.1) (hr : ∀ c ∈ rs, Ad c.1 ∧ c.2.1 < 4294967296) : ∀ x ∈ lnsP d cs rs, x.length ≤ 264 := by
  intro x hx
  rcases List.mem_cons.1 hx with rfl | h
  · have := lnD_len d; omega
  · rcases List.mem_append.1 h with h | h
    · obtain ⟨c, h1, rfl⟩ := List.mem_map.1 h
      have := lnC_len (hc c h1); omega
    · obtain ⟨c, h1, rfl⟩ := List.mem_map.1 h
      exact lnR_len (hr c h1).1 (hr c h1).2
theorem flat_len : ∀ (l : List (List UInt8)), (∀ x ∈ l, x.length ≤ 264) → (l.flatMap endL).length ≤ 265 * l.length
  | [], _ => by simp
  | x :: l, h => by
    have h1 := flat_len l (fun y hy => h y (by simp [hy]))
    have h2 := h x (by simp)
    simp only [List.flatMap_cons, List.length_append, List.length_cons, endL, List.length_nil] at h1 ⊢
    omega
/-- The text of a policy that may be is read as it. -/
theorem parse_text (d : Nat) (cs : List (List Nat × Nat)) (rs : List (List Nat × Nat × Nat)) (w : World) (hd : d < 18446744073709551616) (hc : ∀ c ∈ cs, Ad c.1 ∧ c.2 < 18446744073709551616) (hr : ∀ c ∈ rs, Ad c.1 ∧ c.2.1 < 4294967296 ∧ c.2.2 < 18446744073709551616) (hk : chk d cs rs = 0) (hT : TZ w) (h10 : T10 w) :
    Calls Tryz.prog 22 #[.string ⟨(txP d cs rs).toArray⟩] w fun e w' => ∃ vc vr, e = .returned (.tuple #[.agg #[.int .u64 (d : Nat), vc, vr], .int .i64 0]) ∧ ClA w' vc cs ∧ RlA w' vr rs ∧ Below w.heap.size w w' := by
  have hlen : cs.length ≤ 64 ∧ rs.length ≤ 64 := by
    unfold chk at hk
    split at hk <;> omega
  have hne : lnsP d cs rs ≠ [] := by simp [lnsP]
  have hsm := lnsP_small (d := d) (cs := cs) (rs := rs) (fun c h => (hc c h).1) (fun c h => ⟨(hr c h).1, (hr c h).2.1⟩)
  have htl : (txP d cs rs).length ≤ 40000 := by
    have h1 := flat_len _ hsm
    rw [lnsP_len] at h1
    unfold txP
    omega
  have he : txP d cs rs = lnsB (lnsP d cs rs) ++ [10] := lnsB_end _ hne
  have hbl : (lnsB (lnsP d cs rs)).length ≤ 40000 := by
    have := congrArg List.length he
    rw [List.length_append, List.length_singleton] at this
    omega
  have hp : pcs 10 ⟨(lnsB (lnsP d cs rs)).toArray⟩ = (lnsP d cs rs).map fun l => ⟨l.toArray⟩ := pcs_of (s := ⟨(lnsB (lnsP d cs rs)).toArray⟩) (lnsB_split _ hne (no_end (fun c h => (hc c h).1) (fun c h => (hr c h).1)))
  refine pparse_ok ⟨(txP d cs rs).toArray⟩ ⟨d, cs, rs⟩ w (by rw [ba_siz]; omega) hd hk (fun X hX => ?_)
  have hTX : TZ X := hT.keep hX
  have h10X : T10 X := h10.keep hX
  have hcut : ∀ Y, Calls Tryz.prog 91 #[.string ⟨(txP d cs rs).toArray⟩, .string ⟨#[10]⟩] Y fun e w' => e = .returned (.tuple #[.string ⟨(lnsB (lnsP d cs rs)).toArray⟩, .bool true]) ∧ w' = Y := fun Y => by
    have h := cutSuffix_any ⟨(txP d cs rs).toArray⟩ ⟨#[10]⟩ (by rw [ba_siz]; omega) Y
    rw [ba_dat, show (ByteArray.mk #[10]).data.toList = [10] from rfl, he, (trim_end _).1, (trim_end _).2] at h
    rw [he]
    exact h
  have h := read_okT ⟨(txP d cs rs).toArray⟩ ⟨(lnsB (lnsP d cs rs)).toArray⟩ (stP d cs rs) X (by rw [ba_siz]; omega) hcut rfl (fun i x hx => by
    rw [hp, List.getElem?_map] at hx
    obtain ⟨y, hy, rfl⟩ := Option.map_eq_some_iff.1 hx
    refine ⟨by rw [ba_siz]; have := hsm y (List.mem_of_getElem? hy); omega, step_P d cs rs hd hc hr i y hy, ?_, ?_⟩
    · cases i with
      | zero => simp [stP]
      | succ i => simp only [stP]; rw [List.length_take]; omega
    · cases i with
      | zero => simp [stP]
      | succ i => simp only [stP]; rw [List.length_take]; omega) hTX (fun w' h => hTX.keep h) (fun w' h => h10X.keep h)
  rw [hp, List.length_map, lnsP_len] at h
  simp only [stP] at h
  rw [List.take_of_length_le (show cs.length ≤ cs.length + rs.length by omega), List.take_of_length_le (show rs.length ≤ cs.length + rs.length - cs.length by omega)] at h
  exact h
end Go.Proofs.YtenepkgjdoddgaaGreatDoor

/- policy's laws: the reference's Same. -/
namespace Go.Proofs.YtenepkgjdoddgaaGreatDoor
open Go.RowKit Go.Shelf

set_option maxRecDepth 100000 in
set_option maxHeartbeats 8000000 in
theorem rsame9_any (d e : Nat) (cv rv cu ru : Value) (cs es : List (List Nat × Nat)) (rs ts : List (List Nat × Nat × Nat)) (w : World) (hcs : ClA w cv cs) (hrs : RlA w rv rs) (hes : ClA w cu es) (hts : RlA w ru ts) :
    Calls Tryz.prog 23 #[.agg #[.int .u64 d, cv, rv], .agg #[.int .u64 e, cu, ru]] w fun r w' => r = .returned (.bool (decide (d = e ∧ cs = es ∧ rs = ts))) ∧ Below w.heap.size w w' := by
  obtain ⟨X, hX⟩ : ∃ X, (w.alloc (.cells #[.int .u64 d, cv, rv] 27)).alloc (.cells #[.int .u64 e, cu, ru] 27) = X := ⟨_, rfl⟩
  have b1 : Blk X w.heap.size 27 #[.int .u64 d, cv, rv] := by rw [← hX]; exact (Blk.new w _ _).alloc _
  have b2 : Blk X (w.heap.size + 1) 27 #[.int .u64 e, cu, ru] := by rw [← hX]; exact Blk.newS w _ _ _
  have hW : Below w.heap.size w X := by rw [← hX]; exact balloc (balloc (Below.refl _ _) _) _
  have HX := Lib.hid hX
  have HC := Lib.hid (And.intro (hcs.new hW) (And.intro (hes.new hW) (And.intro (hrs.new hW) (hts.new hW))))
  obtain ⟨_, x1, c1, rfl, hl1, _⟩ := hcs
  obtain ⟨_, x2, c2, rfl, hl2, _⟩ := hrs
  obtain ⟨_, x3, c3, rfl, hl3, _⟩ := hes
  obtain ⟨_, x4, c4, rfl, hl4, _⟩ := hts
  have HP := Lib.hid (fun (Y : World) (hY : Below X.heap.size X Y) => (by
    have q := b1.keep hY
    have r := b2.keep hY
    exact ⟨cell_of_row _ _ 0 _ _ _ q, cell_of_row _ _ 1 _ _ _ q, cell_of_row _ _ 2 _ _ _ q, cell_of_row _ _ 0 _ _ _ r, cell_of_row _ _ 1 _ _ _ r, cell_of_row _ _ 2 _ _ _ r⟩ : Y.cell? ⟨w.heap.size, 0, none⟩ = some (.int .u64 d) ∧ Y.cell? ⟨w.heap.size, 1, none⟩ = some (.slice x1 cs.length c1) ∧ Y.cell? ⟨w.heap.size, 2, none⟩ = some (.slice x2 rs.length c2) ∧ Y.cell? ⟨w.heap.size + 1, 0, none⟩ = some (.int .u64 e) ∧ Y.cell? ⟨w.heap.size + 1, 1, none⟩ = some (.slice x3 es.length c3) ∧ Y.cell? ⟨w.heap.size + 1, 2, none⟩ = some (.slice x4 ts.length c4)))
  have H0 := Lib.hid hW
  clear hX b1 b2 hW
  obtain ⟨n1, hn1⟩ : ∃ n, cs.length = n := ⟨_, rfl⟩
  obtain ⟨n2, hn2⟩ : ∃ n, rs.length = n := ⟨_, rfl⟩
  obtain ⟨n3, hn3⟩ : ∃ n, es.length = n := ⟨_, rfl⟩
  obtain ⟨n4, hn4⟩ : ∃ n, ts.length = n := ⟨_, rfl⟩
  have HN := Lib.hid (And.intro hn1 (And.intro hn2 (And.intro hn3 hn4)))
  rw [hn1] at HX HP hl1 ⊢
  rw [hn2] at HX HP hl2 ⊢
  rw [hn3] at HX HP hl3 ⊢
  rw [hn4] at HX HP hl4 ⊢
  clear hn1 hn2 hn3 hn4
  obtain ⟨k0, k1, k2, k3, k4, k5⟩ := HP.out X (Below.refl _ _)
  by_cases hd : d = e
  · by_cases hc : n1 = n3
    · by_cases hr : n2 = n4
      · have g0 : ((d : Int) == (d : Int)) = true := by simp
        subst hc hr hd
        rw [show decide (d = d ∧ cs = es ∧ rs = ts) = decide (cs = es ∧ rs = ts) by simp]
        obtain ⟨ok, hok⟩ : ∃ b, decide (cs = es ∧ rs = ts) = b := ⟨_, rfl⟩
        rw [hok]
        have HOK := Lib.hid hok
        clear hok
        go_enter Tryz.func23, Tryz.ntmps23
        go_wp2_with fail
        rw [HX.out]
        go_wp2_with fail
        clear k0 k1 k2 k3 k4 k5 g0
        go_loopw [5] (fun t wr => ∃ k : Nat, k ≤ n1 ∧ t = .int .i64 k ∧ Below X.heap.size X wr ∧ cs.take k = es.take k) (fun t _ => n1 - (intOf t).toNat)
        case atStart => exact ⟨0, Nat.zero_le _, rfl, Below.refl _ _, rfl⟩
        case round =>
          obtain ⟨k, hk, rfl, hXw, htk⟩ := hrel
          obtain ⟨k0, k1, k2, k3, k4, k5⟩ := HP.out wr hXw
          by_cases hlt : k < n1
          · obtain ⟨c, hc⟩ : ∃ c, cs[k]? = some c := ⟨_, List.getElem?_eq_getElem (by have := HN.out; omega)⟩
            obtain ⟨f, hf⟩ : ∃ c, es[k]? = some c := ⟨_, List.getElem?_eq_getElem (by have := HN.out; omega)⟩
            have hA1 := (HC.out.1).new hXw
            have hA2 := (HC.out.2.1).new hXw
            have hca := (hA1.1 c (List.mem_of_getElem? hc)).1
            have hea := (hA2.1 f (List.mem_of_getElem? hf)).1
            obtain ⟨_, y1, q1, he1, _, hr1⟩ := hA1
            obtain ⟨_, y2, q2, he2, _, hr2⟩ := hA2
            obtain ⟨b1, o1, hx1, hb1, hg1⟩ := hr1 (fun q => by rw [q] at hc; cases hc)
            obtain ⟨b2, o2, hx2, hb2, hg2⟩ := hr2 (fun q => by rw [q] at hf; cases hf)
            injection he1 with e1 _ _
            injection he2 with e2 _ _
            rw [← e1] at hx1
            rw [← e2] at hx2
            subst hx1
            subst hx2
            have g0 : (k : Int) < (n1 : Int) := by omega
            have g1 : (0 : Int) ≤ (k : Int) := by omega
            have g2 : IntKind.i64.wrap ((k : Int) + 1) = ((k + 1 : Nat) : Int) := IntWalk.i64_in _ (by omega)
            have HS := Lib.hid (And.intro (hg1 k c hc) (And.intro (hg2 k f hf) (And.intro hca (And.intro hea (And.intro hXw (And.intro htk (And.intro hc hf)))))))
            have hQ := neq_clear hca hea
            clear hr1 hr2 hg1 hg2 hca hea htk hc hf hb1 hb2 hXw e1 e2
            by_cases hce : c = f
            · rw [decide_eq_true hce] at hQ
              have HE := Lib.hid hce
              clear hce
              go_upto_region 6 with fail
              refine wp_region_held_drew (S := fun w' => ∀ p, w'.cell? p = wr.cell? p) (by as_aux_lemma => kernel_rfl) (fun _ => rfl) (fun hHeld => ?_)
              simp only [List.size_toArray, List.length_cons, List.length_nil, Nat.reduceAdd, Array.replicate_succ, Array.replicate_zero, List.push_toArray, List.nil_append, List.cons_append]
              refine wpAnyH_take (i := 0) (oi := { dst := some 37, op := Op.fieldAddr 27 (Operand.tmp 2) 1, type := 0, pos := "ref.go:235", after := #[], guard := none }) (v := ?vq0aC) rfl (by as_aux_lemma => kernel_rfl) (by as_aux_lemma => kernel_rfl) (by as_aux_lemma => kernel_rfl) (fun _ _ _ h => h) (Or.inl ⟨by rfl, ?yq0aC⟩) (by assumption) ?rq0aC
              case yq0aC => (intro wS hSw; (try dsimp only at hSw); have kq1 := (hSw ⟨w.heap.size, 1, none⟩).trans k1; have kq2 := (hSw ⟨w.heap.size + 1, 1, none⟩).trans k4; go_simp <;> with_reducible rfl)
              simp only [Act.put, List.setIfInBounds_toArray, List.set_cons_zero, List.set_cons_succ]
              refine wpAnyH_take (i := 1) (oi := { dst := some 38, op := Op.load 24 (Operand.tmp 37), type := 24, pos := "ref.go:235", after := #[{ on := 0, ground := Ground.data }], guard := none }) (v := ?vq1aC) rfl (by as_aux_lemma => kernel_rfl) (by as_aux_lemma => kernel_rfl) (by as_aux_lemma => kernel_rfl) (fun _ _ _ h => h) (Or.inl ⟨by rfl, ?yq1aC⟩) (by assumption) ?rq1aC
              case yq1aC => (intro wS hSw; (try dsimp only at hSw); have kq1 := (hSw ⟨w.heap.size, 1, none⟩).trans k1; have kq2 := (hSw ⟨w.heap.size + 1, 1, none⟩).trans k4; go_simp <;> with_reducible rfl)
              simp only [Act.put, List.setIfInBounds_toArray, List.set_cons_zero, List.set_cons_succ]
              refine wpAnyH_take (i := 2) (oi := { dst := some 39, op := Op.move (Operand.tmp 5), type := 3, pos := "ref.go:235", after := #[], guard := none }) (v := ?vq2aC) rfl (by as_aux_lemma => kernel_rfl) (by as_aux_lemma => kernel_rfl) (by as_aux_lemma => kernel_rfl) (fun _ _ _ h => h) (Or.inl ⟨by rfl, ?yq2aC⟩) (by assumption) ?rq2aC
              case yq2aC => (intro wS hSw; (try dsimp only at hSw); have kq1 := (hSw ⟨w.heap.size, 1, none⟩).trans k1; have kq2 := (hSw ⟨w.heap.size + 1, 1, none⟩).trans k4; go_simp <;> with_reducible rfl)
              simp only [Act.put, List.setIfInBounds_toArray, List.set_cons_zero, List.set_cons_succ]
              refine wpAnyH_take (i := 3) (oi := { dst := some 40, op := Op.indexAddr 24 (Operand.tmp 38) (Operand.tmp 39), type := 0, pos := "ref.go:235", after := #[{ on := 1, ground := Ground.data }, { on := 2, ground := Ground.data }], guard := none }) (v := ?vq3aC) rfl (by as_aux_lemma => kernel_rfl) (by as_aux_lemma => kernel_rfl) (by as_aux_lemma => kernel_rfl) (fun _ _ _ h => h) (Or.inl ⟨by rfl, ?yq3aC⟩) (by assumption) ?rq3aC
              case yq3aC => (intro wS hSw; (try dsimp only at hSw); have kq1 := (hSw ⟨w.heap.size, 1, none⟩).trans k1; have kq2 := (hSw ⟨w.heap.size + 1, 1, none⟩).trans k4; go_simp <;> with_reducible rfl)
              simp only [Act.put, List.setIfInBounds_toArray, List.set_cons_zero, List.set_cons_succ]
              refine wpAnyH_take (i := 4) (oi := { dst := some 41, op := Op.load 72 (Operand.tmp 40), type := 72, pos := "ref.go:235", after := #[{ on := 3, ground := Ground.data }], guard := none }) (v := .agg (clC c)) rfl (by as_aux_lemma => kernel_rfl) (by as_aux_lemma => kernel_rfl) (by as_aux_lemma => kernel_rfl) (fun _ _ _ h => h) (yieldsIf_load_A (by rfl) 72 (.tmp 40) rfl (b1) (o1 + k * 21) rfl (clC c) _ (fun wS hw => range_same HS.out.1 hw) undqc rfl (by rw [info_clear, clC_size HS.out.2.2.1])) (by assumption) ?_
              simp only [Act.put, List.setIfInBounds_toArray, List.set_cons_zero, List.set_cons_succ]
              refine wpAnyH_take (i := 5) (oi := { dst := some 42, op := Op.fieldAddr 27 (Operand.tmp 3) 1, type := 0, pos := "ref.go:235", after := #[], guard := none }) (v := ?vq5aC) rfl (by as_aux_lemma => kernel_rfl) (by as_aux_lemma => kernel_rfl) (by as_aux_lemma => kernel_rfl) (fun _ _ _ h => h) (Or.inl ⟨by rfl, ?yq5aC⟩) (by assumption) ?rq5aC
              case yq5aC => (intro wS hSw; (try dsimp only at hSw); have kq1 := (hSw ⟨w.heap.size, 1, none⟩).trans k1; have kq2 := (hSw ⟨w.heap.size + 1, 1, none⟩).trans k4; go_simp <;> with_reducible rfl)
              simp only [Act.put, List.setIfInBounds_toArray, List.set_cons_zero, List.set_cons_succ]
              refine wpAnyH_take (i := 6) (oi := { dst := some 43, op := Op.load 24 (Operand.tmp 42), type := 24, pos := "ref.go:235", after := #[{ on := 5, ground := Ground.data }], guard := none }) (v := ?vq6aC) rfl (by as_aux_lemma => kernel_rfl) (by as_aux_lemma => kernel_rfl) (by as_aux_lemma => kernel_rfl) (fun _ _ _ h => h) (Or.inl ⟨by rfl, ?yq6aC⟩) (by assumption) ?rq6aC
              case yq6aC => (intro wS hSw; (try dsimp only at hSw); have kq1 := (hSw ⟨w.heap.size, 1, none⟩).trans k1; have kq2 := (hSw ⟨w.heap.size + 1, 1, none⟩).trans k4; go_simp <;> with_reducible rfl)
              simp only [Act.put, List.setIfInBounds_toArray, List.set_cons_zero, List.set_cons_succ]
              refine wpAnyH_take (i := 7) (oi := { dst := some 44, op := Op.move (Operand.tmp 5), type := 3, pos := "ref.go:235", after := #[], guard := none }) (v := ?vq7aC) rfl (by as_aux_lemma => kernel_rfl) (by as_aux_lemma => kernel_rfl) (by as_aux_lemma => kernel_rfl) (fun _ _ _ h => h) (Or.inl ⟨by rfl, ?yq7aC⟩) (by assumption) ?rq7aC
              case yq7aC => (intro wS hSw; (try dsimp only at hSw); have kq1 := (hSw ⟨w.heap.size, 1, none⟩).trans k1; have kq2 := (hSw ⟨w.heap.size + 1, 1, none⟩).trans k4; go_simp <;> with_reducible rfl)
              simp only [Act.put, List.setIfInBounds_toArray, List.set_cons_zero, List.set_cons_succ]
              refine wpAnyH_take (i := 8) (oi := { dst := some 45, op := Op.indexAddr 24 (Operand.tmp 43) (Operand.tmp 44), type := 0, pos := "ref.go:235", after := #[{ on := 6, ground := Ground.data }, { on := 7, ground := Ground.data }], guard := none }) (v := ?vq8aC) rfl (by as_aux_lemma => kernel_rfl) (by as_aux_lemma => kernel_rfl) (by as_aux_lemma => kernel_rfl) (fun _ _ _ h => h) (Or.inl ⟨by rfl, ?yq8aC⟩) (by assumption) ?rq8aC
              case yq8aC => (intro wS hSw; (try dsimp only at hSw); have kq1 := (hSw ⟨w.heap.size, 1, none⟩).trans k1; have kq2 := (hSw ⟨w.heap.size + 1, 1, none⟩).trans k4; go_simp <;> with_reducible rfl)
              simp only [Act.put, List.setIfInBounds_toArray, List.set_cons_zero, List.set_cons_succ]
              refine wpAnyH_take (i := 9) (oi := { dst := some 46, op := Op.load 72 (Operand.tmp 45), type := 72, pos := "ref.go:235", after := #[{ on := 8, ground := Ground.data }], guard := none }) (v := .agg (clC f)) rfl (by as_aux_lemma => kernel_rfl) (by as_aux_lemma => kernel_rfl) (by as_aux_lemma => kernel_rfl) (fun _ _ _ h => h) (yieldsIf_load_A (by rfl) 72 (.tmp 45) rfl (b2) (o2 + k * 21) rfl (clC f) _ (fun wS hw => range_same HS.out.2.1 hw) undqc rfl (by rw [info_clear, clC_size HS.out.2.2.2.1])) (by assumption) ?_
              simp only [Act.put, List.setIfInBounds_toArray, List.set_cons_zero, List.set_cons_succ]
              refine wpAnyH_take (i := 10) (oi := { dst := some 47, op := Op.binOp BinOp.neq 72 (Operand.tmp 41) (Operand.tmp 46) 72, type := 4, pos := "ref.go:235", after := #[{ on := 4, ground := Ground.data }, { on := 9, ground := Ground.data }], guard := none }) (v := ?vq10aC) rfl (by as_aux_lemma => kernel_rfl) (by as_aux_lemma => kernel_rfl) (by as_aux_lemma => kernel_rfl) (fun _ _ _ h => h) (Or.inl ⟨by rfl, ?yq10aC⟩) (by assumption) ?rq10aC
              case yq10aC => (intro wS hSw; (try dsimp only at hSw); have kq1 := (hSw ⟨w.heap.size, 1, none⟩).trans k1; have kq2 := (hSw ⟨w.heap.size + 1, 1, none⟩).trans k4; go_simp <;> with_reducible rfl)
              simp only [Act.put, List.setIfInBounds_toArray, List.set_cons_zero, List.set_cons_succ]
              refine wpAnyH_done (by as_aux_lemma => kernel_rfl) ?_ _
              clear hHeld hQ
              go_wp2_with fail
              obtain ⟨_, _, _, _, s5, s6, s7, s8⟩ := HS.out
              exact ⟨⟨k + 1, by omega, congrArg (Value.int .i64) (by omega), s5.trans (show Below X.heap.size wr wr.drew from ⟨rfl, rfl, rfl, Nat.le_refl _, fun _ _ => rfl⟩), by rw [List.take_add_one, List.take_add_one, s6, s7, s8, HE.out]⟩, by simp [intOf]; omega⟩
            · rw [decide_eq_false hce] at hQ
              have HE := Lib.hid hce
              clear hce
              go_upto_region 6 with fail
              refine wp_region_held_drew (S := fun w' => ∀ p, w'.cell? p = wr.cell? p) (by as_aux_lemma => kernel_rfl) (fun _ => rfl) (fun hHeld => ?_)
              simp only [List.size_toArray, List.length_cons, List.length_nil, Nat.reduceAdd, Array.replicate_succ, Array.replicate_zero, List.push_toArray, List.nil_append, List.cons_append]
              refine wpAnyH_take (i := 0) (oi := { dst := some 37, op := Op.fieldAddr 27 (Operand.tmp 2) 1, type := 0, pos := "ref.go:235", after := #[], guard := none }) (v := ?vq0bC) rfl (by as_aux_lemma => kernel_rfl) (by as_aux_lemma => kernel_rfl) (by as_aux_lemma => kernel_rfl) (fun _ _ _ h => h) (Or.inl ⟨by rfl, ?yq0bC⟩) (by assumption) ?rq0bC
              case yq0bC => (intro wS hSw; (try dsimp only at hSw); have kq1 := (hSw ⟨w.heap.size, 1, none⟩).trans k1; have kq2 := (hSw ⟨w.heap.size + 1, 1, none⟩).trans k4; go_simp <;> with_reducible rfl)
              simp only [Act.put, List.setIfInBounds_toArray, List.set_cons_zero, List.set_cons_succ]
              refine wpAnyH_take (i := 1) (oi := { dst := some 38, op := Op.load 24 (Operand.tmp 37), type := 24, pos := "ref.go:235", after := #[{ on := 0, ground := Ground.data }], guard := none }) (v := ?vq1bC) rfl (by as_aux_lemma => kernel_rfl) (by as_aux_lemma => kernel_rfl) (by as_aux_lemma => kernel_rfl) (fun _ _ _ h => h) (Or.inl ⟨by rfl, ?yq1bC⟩) (by assumption) ?rq1bC
              case yq1bC => (intro wS hSw; (try dsimp only at hSw); have kq1 := (hSw ⟨w.heap.size, 1, none⟩).trans k1; have kq2 := (hSw ⟨w.heap.size + 1, 1, none⟩).trans k4; go_simp <;> with_reducible rfl)
              simp only [Act.put, List.setIfInBounds_toArray, List.set_cons_zero, List.set_cons_succ]
              refine wpAnyH_take (i := 2) (oi := { dst := some 39, op := Op.move (Operand.tmp 5), type := 3, pos := "ref.go:235", after := #[], guard := none }) (v := ?vq2bC) rfl (by as_aux_lemma => kernel_rfl) (by as_aux_lemma => kernel_rfl) (by as_aux_lemma => kernel_rfl) (fun _ _ _ h => h) (Or.inl ⟨by rfl, ?yq2bC⟩) (by assumption) ?rq2bC
              case yq2bC => (intro wS hSw; (try dsimp only at hSw); have kq1 := (hSw ⟨w.heap.size, 1, none⟩).trans k1; have kq2 := (hSw ⟨w.heap.size + 1, 1, none⟩).trans k4; go_simp <;> with_reducible rfl)
              simp only [Act.put, List.setIfInBounds_toArray, List.set_cons_zero, List.set_cons_succ]
              refine wpAnyH_take (i := 3) (oi := { dst := some 40, op := Op.indexAddr 24 (Operand.tmp 38) (Operand.tmp 39), type := 0, pos := "ref.go:235", after := #[{ on := 1, ground := Ground.data }, { on := 2, ground := Ground.data }], guard := none }) (v := ?vq3bC) rfl (by as_aux_lemma => kernel_rfl) (by as_aux_lemma => kernel_rfl) (by as_aux_lemma => kernel_rfl) (fun _ _ _ h => h) (Or.inl ⟨by rfl, ?yq3bC⟩) (by assumption) ?rq3bC
              case yq3bC => (intro wS hSw; (try dsimp only at hSw); have kq1 := (hSw ⟨w.heap.size, 1, none⟩).trans k1; have kq2 := (hSw ⟨w.heap.size + 1, 1, none⟩).trans k4; go_simp <;> with_reducible rfl)
              simp only [Act.put, List.setIfInBounds_toArray, List.set_cons_zero, List.set_cons_succ]
              refine wpAnyH_take (i := 4) (oi := { dst := some 41, op := Op.load 72 (Operand.tmp 40), type := 72, pos := "ref.go:235", after := #[{ on := 3, ground := Ground.data }], guard := none }) (v := .agg (clC c)) rfl (by as_aux_lemma => kernel_rfl) (by as_aux_lemma => kernel_rfl) (by as_aux_lemma => kernel_rfl) (fun _ _ _ h => h) (yieldsIf_load_A (by rfl) 72 (.tmp 40) rfl (b1) (o1 + k * 21) rfl (clC c) _ (fun wS hw => range_same HS.out.1 hw) undqc rfl (by rw [info_clear, clC_size HS.out.2.2.1])) (by assumption) ?_
              simp only [Act.put, List.setIfInBounds_toArray, List.set_cons_zero, List.set_cons_succ]
              refine wpAnyH_take (i := 5) (oi := { dst := some 42, op := Op.fieldAddr 27 (Operand.tmp 3) 1, type := 0, pos := "ref.go:235", after := #[], guard := none }) (v := ?vq5bC) rfl (by as_aux_lemma => kernel_rfl) (by as_aux_lemma => kernel_rfl) (by as_aux_lemma => kernel_rfl) (fun _ _ _ h => h) (Or.inl ⟨by rfl, ?yq5bC⟩) (by assumption) ?rq5bC
              case yq5bC => (intro wS hSw; (try dsimp only at hSw); have kq1 := (hSw ⟨w.heap.size, 1, none⟩).trans k1; have kq2 := (hSw ⟨w.heap.size + 1, 1, none⟩).trans k4; go_simp <;> with_reducible rfl)
              simp only [Act.put, List.setIfInBounds_toArray, List.set_cons_zero, List.set_cons_succ]
              refine wpAnyH_take (i := 6) (oi := { dst := some 43, op := Op.load 24 (Operand.tmp 42), type := 24, pos := "ref.go:235", after := #[{ on := 5, ground := Ground.data }], guard := none }) (v := ?vq6bC) rfl (by as_aux_lemma => kernel_rfl) (by as_aux_lemma => kernel_rfl) (by as_aux_lemma => kernel_rfl) (fun _ _ _ h => h) (Or.inl ⟨by rfl, ?yq6bC⟩) (by assumption) ?rq6bC
              case yq6bC => (intro wS hSw; (try dsimp only at hSw); have kq1 := (hSw ⟨w.heap.size, 1, none⟩).trans k1; have kq2 := (hSw ⟨w.heap.size + 1, 1, none⟩).trans k4; go_simp <;> with_reducible rfl)
              simp only [Act.put, List.setIfInBounds_toArray, List.set_cons_zero, List.set_cons_succ]
              refine wpAnyH_take (i := 7) (oi := { dst := some 44, op := Op.move (Operand.tmp 5), type := 3, pos := "ref.go:235", after := #[], guard := none }) (v := ?vq7bC) rfl (by as_aux_lemma => kernel_rfl) (by as_aux_lemma => kernel_rfl) (by as_aux_lemma => kernel_rfl) (fun _ _ _ h => h) (Or.inl ⟨by rfl, ?yq7bC⟩) (by assumption) ?rq7bC
              case yq7bC => (intro wS hSw; (try dsimp only at hSw); have kq1 := (hSw ⟨w.heap.size, 1, none⟩).trans k1; have kq2 := (hSw ⟨w.heap.size + 1, 1, none⟩).trans k4; go_simp <;> with_reducible rfl)
              simp only [Act.put, List.setIfInBounds_toArray, List.set_cons_zero, List.set_cons_succ]
              refine wpAnyH_take (i := 8) (oi := { dst := some 45, op := Op.indexAddr 24 (Operand.tmp 43) (Operand.tmp 44), type := 0, pos := "ref.go:235", after := #[{ on := 6, ground := Ground.data }, { on := 7, ground := Ground.data }], guard := none }) (v := ?vq8bC) rfl (by as_aux_lemma => kernel_rfl) (by as_aux_lemma => kernel_rfl) (by as_aux_lemma => kernel_rfl) (fun _ _ _ h => h) (Or.inl ⟨by rfl, ?yq8bC⟩) (by assumption) ?rq8bC
              case yq8bC => (intro wS hSw; (try dsimp only at hSw); have kq1 := (hSw ⟨w.heap.size, 1, none⟩).trans k1; have kq2 := (hSw ⟨w.heap.size + 1, 1, none⟩).trans k4; go_simp <;> with_reducible rfl)
              simp only [Act.put, List.setIfInBounds_toArray, List.set_cons_zero, List.set_cons_succ]
              refine wpAnyH_take (i := 9) (oi := { dst := some 46, op := Op.load 72 (Operand.tmp 45), type := 72, pos := "ref.go:235", after := #[{ on := 8, ground := Ground.data }], guard := none }) (v := .agg (clC f)) rfl (by as_aux_lemma => kernel_rfl) (by as_aux_lemma => kernel_rfl) (by as_aux_lemma => kernel_rfl) (fun _ _ _ h => h) (yieldsIf_load_A (by rfl) 72 (.tmp 45) rfl (b2) (o2 + k * 21) rfl (clC f) _ (fun wS hw => range_same HS.out.2.1 hw) undqc rfl (by rw [info_clear, clC_size HS.out.2.2.2.1])) (by assumption) ?_
              simp only [Act.put, List.setIfInBounds_toArray, List.set_cons_zero, List.set_cons_succ]
              refine wpAnyH_take (i := 10) (oi := { dst := some 47, op := Op.binOp BinOp.neq 72 (Operand.tmp 41) (Operand.tmp 46) 72, type := 4, pos := "ref.go:235", after := #[{ on := 4, ground := Ground.data }, { on := 9, ground := Ground.data }], guard := none }) (v := ?vq10bC) rfl (by as_aux_lemma => kernel_rfl) (by as_aux_lemma => kernel_rfl) (by as_aux_lemma => kernel_rfl) (fun _ _ _ h => h) (Or.inl ⟨by rfl, ?yq10bC⟩) (by assumption) ?rq10bC
              case yq10bC => (intro wS hSw; (try dsimp only at hSw); have kq1 := (hSw ⟨w.heap.size, 1, none⟩).trans k1; have kq2 := (hSw ⟨w.heap.size + 1, 1, none⟩).trans k4; go_simp <;> with_reducible rfl)
              simp only [Act.put, List.setIfInBounds_toArray, List.set_cons_zero, List.set_cons_succ]
              refine wpAnyH_done (by as_aux_lemma => kernel_rfl) ?_ _
              clear hHeld hQ
              go_wp2_with fail
              go_ret
              obtain ⟨_, _, _, _, s5, s6, s7, s8⟩ := HS.out
              rw [← HOK.out, decide_eq_false (fun q => HE.out (Option.some.inj (by rw [← s7, ← s8, q.1])))]
              exact ⟨rfl, H0.out.trans ((s5.trans (show Below X.heap.size wr wr.drew from ⟨rfl, rfl, rfl, Nat.le_refl _, fun _ _ => rfl⟩)).mono H0.out.size)⟩
          · obtain rfl : n1 = k := by omega
            have he : cs = es := by
              rw [List.take_of_length_le (by rw [HN.out.1]; exact Nat.le_refl _), List.take_of_length_le (by rw [HN.out.2.2.1]; exact Nat.le_refl _)] at htk
              exact htk
            have HL := Lib.hid (And.intro he hXw)
            clear htk he hXw
            go_wp2_with fail
            clear k0 k1 k2 k3 k4 k5
            go_loopw [6] (fun t wr => ∃ j : Nat, j ≤ n2 ∧ t = .int .i64 j ∧ Below X.heap.size X wr ∧ rs.take j = ts.take j) (fun t _ => n2 - (intOf t).toNat)
            case atStart => exact ⟨0, Nat.zero_le _, rfl, HL.out.2, rfl⟩
            case round =>
              obtain ⟨j, hk, rfl, hXw, htk⟩ := hrel
              obtain ⟨k0, k1, k2, k3, k4, k5⟩ := HP.out wr hXw
              by_cases hlt : j < n2
              · obtain ⟨c, hc⟩ : ∃ c, rs[j]? = some c := ⟨_, List.getElem?_eq_getElem (by have := HN.out; omega)⟩
                obtain ⟨f, hf⟩ : ∃ c, ts[j]? = some c := ⟨_, List.getElem?_eq_getElem (by have := HN.out; omega)⟩
                have hA1 := (HC.out.2.2.1).new hXw
                have hA2 := (HC.out.2.2.2).new hXw
                have hca := (hA1.1 c (List.mem_of_getElem? hc)).1
                have hea := (hA2.1 f (List.mem_of_getElem? hf)).1
                obtain ⟨_, y1, q1, he1, _, hr1⟩ := hA1
                obtain ⟨_, y2, q2, he2, _, hr2⟩ := hA2
                obtain ⟨b1, o1, hx1, hb1, hg1⟩ := hr1 (fun q => by rw [q] at hc; cases hc)
                obtain ⟨b2, o2, hx2, hb2, hg2⟩ := hr2 (fun q => by rw [q] at hf; cases hf)
                injection he1 with e1 _ _
                injection he2 with e2 _ _
                rw [← e1] at hx1
                rw [← e2] at hx2
                subst hx1
                subst hx2
                have g0 : (j : Int) < (n2 : Int) := by omega
                have g1 : (0 : Int) ≤ (j : Int) := by omega
                have g2 : IntKind.i64.wrap ((j : Int) + 1) = ((j + 1 : Nat) : Int) := IntWalk.i64_in _ (by omega)
                have HS := Lib.hid (And.intro (hg1 j c hc) (And.intro (hg2 j f hf) (And.intro hca (And.intro hea (And.intro hXw (And.intro htk (And.intro hc hf)))))))
                have hQ := neq_release hca hea
                clear hr1 hr2 hg1 hg2 hca hea htk hc hf hb1 hb2 hXw e1 e2
                by_cases hce : c = f
                · rw [decide_eq_true hce] at hQ
                  have HE := Lib.hid hce
                  clear hce
                  go_upto_region 11 with fail
                  refine wp_region_held_drew (S := fun w' => ∀ p, w'.cell? p = wr.cell? p) (by as_aux_lemma => kernel_rfl) (fun _ => rfl) (fun hHeld => ?_)
                  simp only [List.size_toArray, List.length_cons, List.length_nil, Nat.reduceAdd, Array.replicate_succ, Array.replicate_zero, List.push_toArray, List.nil_append, List.cons_append]
                  refine wpAnyH_take (i := 0) (oi := { dst := some 55, op := Op.fieldAddr 27 (Operand.tmp 2) 2, type := 0, pos := "ref.go:240", after := #[], guard := none }) (v := ?vq0aR) rfl (by as_aux_lemma => kernel_rfl) (by as_aux_lemma => kernel_rfl) (by as_aux_lemma => kernel_rfl) (fun _ _ _ h => h) (Or.inl ⟨by rfl, ?yq0aR⟩) (by assumption) ?rq0aR
                  case yq0aR => (intro wS hSw; (try dsimp only at hSw); have kq1 := (hSw ⟨w.heap.size, 2, none⟩).trans k2; have kq2 := (hSw ⟨w.heap.size + 1, 2, none⟩).trans k5; go_simp <;> with_reducible rfl)
                  simp only [Act.put, List.setIfInBounds_toArray, List.set_cons_zero, List.set_cons_succ]
                  refine wpAnyH_take (i := 1) (oi := { dst := some 56, op := Op.load 25 (Operand.tmp 55), type := 25, pos := "ref.go:240", after := #[{ on := 0, ground := Ground.data }], guard := none }) (v := ?vq1aR) rfl (by as_aux_lemma => kernel_rfl) (by as_aux_lemma => kernel_rfl) (by as_aux_lemma => kernel_rfl) (fun _ _ _ h => h) (Or.inl ⟨by rfl, ?yq1aR⟩) (by assumption) ?rq1aR
                  case yq1aR => (intro wS hSw; (try dsimp only at hSw); have kq1 := (hSw ⟨w.heap.size, 2, none⟩).trans k2; have kq2 := (hSw ⟨w.heap.size + 1, 2, none⟩).trans k5; go_simp <;> with_reducible rfl)
                  simp only [Act.put, List.setIfInBounds_toArray, List.set_cons_zero, List.set_cons_succ]
                  refine wpAnyH_take (i := 2) (oi := { dst := some 57, op := Op.move (Operand.tmp 6), type := 3, pos := "ref.go:240", after := #[], guard := none }) (v := ?vq2aR) rfl (by as_aux_lemma => kernel_rfl) (by as_aux_lemma => kernel_rfl) (by as_aux_lemma => kernel_rfl) (fun _ _ _ h => h) (Or.inl ⟨by rfl, ?yq2aR⟩) (by assumption) ?rq2aR
                  case yq2aR => (intro wS hSw; (try dsimp only at hSw); have kq1 := (hSw ⟨w.heap.size, 2, none⟩).trans k2; have kq2 := (hSw ⟨w.heap.size + 1, 2, none⟩).trans k5; go_simp <;> with_reducible rfl)
                  simp only [Act.put, List.setIfInBounds_toArray, List.set_cons_zero, List.set_cons_succ]
                  refine wpAnyH_take (i := 3) (oi := { dst := some 58, op := Op.indexAddr 25 (Operand.tmp 56) (Operand.tmp 57), type := 0, pos := "ref.go:240", after := #[{ on := 1, ground := Ground.data }, { on := 2, ground := Ground.data }], guard := none }) (v := ?vq3aR) rfl (by as_aux_lemma => kernel_rfl) (by as_aux_lemma => kernel_rfl) (by as_aux_lemma => kernel_rfl) (fun _ _ _ h => h) (Or.inl ⟨by rfl, ?yq3aR⟩) (by assumption) ?rq3aR
                  case yq3aR => (intro wS hSw; (try dsimp only at hSw); have kq1 := (hSw ⟨w.heap.size, 2, none⟩).trans k2; have kq2 := (hSw ⟨w.heap.size + 1, 2, none⟩).trans k5; go_simp <;> with_reducible rfl)
                  simp only [Act.put, List.setIfInBounds_toArray, List.set_cons_zero, List.set_cons_succ]
                  refine wpAnyH_take (i := 4) (oi := { dst := some 59, op := Op.load 74 (Operand.tmp 58), type := 74, pos := "ref.go:240", after := #[{ on := 3, ground := Ground.data }], guard := none }) (v := .agg (rlC c)) rfl (by as_aux_lemma => kernel_rfl) (by as_aux_lemma => kernel_rfl) (by as_aux_lemma => kernel_rfl) (fun _ _ _ h => h) (yieldsIf_load_A (by rfl) 74 (.tmp 58) rfl (b1) (o1 + j * 22) rfl (rlC c) _ (fun wS hw => range_same HS.out.1 hw) undqr rfl (by rw [info_release, rlC_size HS.out.2.2.1])) (by assumption) ?_
                  simp only [Act.put, List.setIfInBounds_toArray, List.set_cons_zero, List.set_cons_succ]
                  refine wpAnyH_take (i := 5) (oi := { dst := some 60, op := Op.fieldAddr 27 (Operand.tmp 3) 2, type := 0, pos := "ref.go:240", after := #[], guard := none }) (v := ?vq5aR) rfl (by as_aux_lemma => kernel_rfl) (by as_aux_lemma => kernel_rfl) (by as_aux_lemma => kernel_rfl) (fun _ _ _ h => h) (Or.inl ⟨by rfl, ?yq5aR⟩) (by assumption) ?rq5aR
                  case yq5aR => (intro wS hSw; (try dsimp only at hSw); have kq1 := (hSw ⟨w.heap.size, 2, none⟩).trans k2; have kq2 := (hSw ⟨w.heap.size + 1, 2, none⟩).trans k5; go_simp <;> with_reducible rfl)
                  simp only [Act.put, List.setIfInBounds_toArray, List.set_cons_zero, List.set_cons_succ]
                  refine wpAnyH_take (i := 6) (oi := { dst := some 61, op := Op.load 25 (Operand.tmp 60), type := 25, pos := "ref.go:240", after := #[{ on := 5, ground := Ground.data }], guard := none }) (v := ?vq6aR) rfl (by as_aux_lemma => kernel_rfl) (by as_aux_lemma => kernel_rfl) (by as_aux_lemma => kernel_rfl) (fun _ _ _ h => h) (Or.inl ⟨by rfl, ?yq6aR⟩) (by assumption) ?rq6aR
                  case yq6aR => (intro wS hSw; (try dsimp only at hSw); have kq1 := (hSw ⟨w.heap.size, 2, none⟩).trans k2; have kq2 := (hSw ⟨w.heap.size + 1, 2, none⟩).trans k5; go_simp <;> with_reducible rfl)
                  simp only [Act.put, List.setIfInBounds_toArray, List.set_cons_zero, List.set_cons_succ]
                  refine wpAnyH_take (i := 7) (oi := { dst := some 62, op := Op.move (Operand.tmp 6), type := 3, pos := "ref.go:240", after := #[], guard := none }) (v := ?vq7aR) rfl (by as_aux_lemma => kernel_rfl) (by as_aux_lemma => kernel_rfl) (by as_aux_lemma => kernel_rfl) (fun _ _ _ h => h) (Or.inl ⟨by rfl, ?yq7aR⟩) (by assumption) ?rq7aR
                  case yq7aR => (intro wS hSw; (try dsimp only at hSw); have kq1 := (hSw ⟨w.heap.size, 2, none⟩).trans k2; have kq2 := (hSw ⟨w.heap.size + 1, 2, none⟩).trans k5; go_simp <;> with_reducible rfl)
                  simp only [Act.put, List.setIfInBounds_toArray, List.set_cons_zero, List.set_cons_succ]
                  refine wpAnyH_take (i := 8) (oi := { dst := some 63, op := Op.indexAddr 25 (Operand.tmp 61) (Operand.tmp 62), type := 0, pos := "ref.go:240", after := #[{ on := 6, ground := Ground.data }, { on := 7, ground := Ground.data }], guard := none }) (v := ?vq8aR) rfl (by as_aux_lemma => kernel_rfl) (by as_aux_lemma => kernel_rfl) (by as_aux_lemma => kernel_rfl) (fun _ _ _ h => h) (Or.inl ⟨by rfl, ?yq8aR⟩) (by assumption) ?rq8aR
                  case yq8aR => (intro wS hSw; (try dsimp only at hSw); have kq1 := (hSw ⟨w.heap.size, 2, none⟩).trans k2; have kq2 := (hSw ⟨w.heap.size + 1, 2, none⟩).trans k5; go_simp <;> with_reducible rfl)
                  simp only [Act.put, List.setIfInBounds_toArray, List.set_cons_zero, List.set_cons_succ]
                  refine wpAnyH_take (i := 9) (oi := { dst := some 64, op := Op.load 74 (Operand.tmp 63), type := 74, pos := "ref.go:240", after := #[{ on := 8, ground := Ground.data }], guard := none }) (v := .agg (rlC f)) rfl (by as_aux_lemma => kernel_rfl) (by as_aux_lemma => kernel_rfl) (by as_aux_lemma => kernel_rfl) (fun _ _ _ h => h) (yieldsIf_load_A (by rfl) 74 (.tmp 63) rfl (b2) (o2 + j * 22) rfl (rlC f) _ (fun wS hw => range_same HS.out.2.1 hw) undqr rfl (by rw [info_release, rlC_size HS.out.2.2.2.1])) (by assumption) ?_
                  simp only [Act.put, List.setIfInBounds_toArray, List.set_cons_zero, List.set_cons_succ]
                  refine wpAnyH_take (i := 10) (oi := { dst := some 65, op := Op.binOp BinOp.neq 74 (Operand.tmp 59) (Operand.tmp 64) 74, type := 4, pos := "ref.go:240", after := #[{ on := 4, ground := Ground.data }, { on := 9, ground := Ground.data }], guard := none }) (v := ?vq10aR) rfl (by as_aux_lemma => kernel_rfl) (by as_aux_lemma => kernel_rfl) (by as_aux_lemma => kernel_rfl) (fun _ _ _ h => h) (Or.inl ⟨by rfl, ?yq10aR⟩) (by assumption) ?rq10aR
                  case yq10aR => (intro wS hSw; (try dsimp only at hSw); have kq1 := (hSw ⟨w.heap.size, 2, none⟩).trans k2; have kq2 := (hSw ⟨w.heap.size + 1, 2, none⟩).trans k5; go_simp <;> with_reducible rfl)
                  simp only [Act.put, List.setIfInBounds_toArray, List.set_cons_zero, List.set_cons_succ]
                  refine wpAnyH_done (by as_aux_lemma => kernel_rfl) ?_ _
                  clear hHeld hQ
                  go_wp2_with fail
                  obtain ⟨_, _, _, _, s5, s6, s7, s8⟩ := HS.out
                  exact ⟨⟨j + 1, by omega, congrArg (Value.int .i64) (by omega), s5.trans (show Below X.heap.size wr wr.drew from ⟨rfl, rfl, rfl, Nat.le_refl _, fun _ _ => rfl⟩), by rw [List.take_add_one, List.take_add_one, s6, s7, s8, HE.out]⟩, by simp [intOf]; omega⟩
                · rw [decide_eq_false hce] at hQ
                  have HE := Lib.hid hce
                  clear hce
                  go_upto_region 11 with fail
                  refine wp_region_held_drew (S := fun w' => ∀ p, w'.cell? p = wr.cell? p) (by as_aux_lemma => kernel_rfl) (fun _ => rfl) (fun hHeld => ?_)
                  simp only [List.size_toArray, List.length_cons, List.length_nil, Nat.reduceAdd, Array.replicate_succ, Array.replicate_zero, List.push_toArray, List.nil_append, List.cons_append]
                  refine wpAnyH_take (i := 0) (oi := { dst := some 55, op := Op.fieldAddr 27 (Operand.tmp 2) 2, type := 0, pos := "ref.go:240", after := #[], guard := none }) (v := ?vq0bR) rfl (by as_aux_lemma => kernel_rfl) (by as_aux_lemma => kernel_rfl) (by as_aux_lemma => kernel_rfl) (fun _ _ _ h => h) (Or.inl ⟨by rfl, ?yq0bR⟩) (by assumption) ?rq0bR
                  case yq0bR => (intro wS hSw; (try dsimp only at hSw); have kq1 := (hSw ⟨w.heap.size, 2, none⟩).trans k2; have kq2 := (hSw ⟨w.heap.size + 1, 2, none⟩).trans k5; go_simp <;> with_reducible rfl)
                  simp only [Act.put, List.setIfInBounds_toArray, List.set_cons_zero, List.set_cons_succ]
                  refine wpAnyH_take (i := 1) (oi := { dst := some 56, op := Op.load 25 (Operand.tmp 55), type := 25, pos := "ref.go:240", after := #[{ on := 0, ground := Ground.data }], guard := none }) (v := ?vq1bR) rfl (by as_aux_lemma => kernel_rfl) (by as_aux_lemma => kernel_rfl) (by as_aux_lemma => kernel_rfl) (fun _ _ _ h => h) (Or.inl ⟨by rfl, ?yq1bR⟩) (by assumption) ?rq1bR
                  case yq1bR => (intro wS hSw; (try dsimp only at hSw); have kq1 := (hSw ⟨w.heap.size, 2, none⟩).trans k2; have kq2 := (hSw ⟨w.heap.size + 1, 2, none⟩).trans k5; go_simp <;> with_reducible rfl)
                  simp only [Act.put, List.setIfInBounds_toArray, List.set_cons_zero, List.set_cons_succ]
                  refine wpAnyH_take (i := 2) (oi := { dst := some 57, op := Op.move (Operand.tmp 6), type := 3, pos := "ref.go:240", after := #[], guard := none }) (v := ?vq2bR) rfl (by as_aux_lemma => kernel_rfl) (by as_aux_lemma => kernel_rfl) (by as_aux_lemma => kernel_rfl) (fun _ _ _ h => h) (Or.inl ⟨by rfl, ?yq2bR⟩) (by assumption) ?rq2bR
                  case yq2bR => (intro wS hSw; (try dsimp only at hSw); have kq1 := (hSw ⟨w.heap.size, 2, none⟩).trans k2; have kq2 := (hSw ⟨w.heap.size + 1, 2, none⟩).trans k5; go_simp <;> with_reducible rfl)
                  simp only [Act.put, List.setIfInBounds_toArray, List.set_cons_zero, List.set_cons_succ]
                  refine wpAnyH_take (i := 3) (oi := { dst := some 58, op := Op.indexAddr 25 (Operand.tmp 56) (Operand.tmp 57), type := 0, pos := "ref.go:240", after := #[{ on := 1, ground := Ground.data }, { on := 2, ground := Ground.data }], guard := none }) (v := ?vq3bR) rfl (by as_aux_lemma => kernel_rfl) (by as_aux_lemma => kernel_rfl) (by as_aux_lemma => kernel_rfl) (fun _ _ _ h => h) (Or.inl ⟨by rfl, ?yq3bR⟩) (by assumption) ?rq3bR
                  case yq3bR => (intro wS hSw; (try dsimp only at hSw); have kq1 := (hSw ⟨w.heap.size, 2, none⟩).trans k2; have kq2 := (hSw ⟨w.heap.size + 1, 2, none⟩).trans k5; go_simp <;> with_reducible rfl)
                  simp only [Act.put, List.setIfInBounds_toArray, List.set_cons_zero, List.set_cons_succ]
                  refine wpAnyH_take (i := 4) (oi := { dst := some 59, op := Op.load 74 (Operand.tmp 58), type := 74, pos := "ref.go:240", after := #[{ on := 3, ground := Ground.data }], guard := none }) (v := .agg (rlC c)) rfl (by as_aux_lemma => kernel_rfl) (by as_aux_lemma => kernel_rfl) (by as_aux_lemma => kernel_rfl) (fun _ _ _ h => h) (yieldsIf_load_A (by rfl) 74 (.tmp 58) rfl (b1) (o1 + j * 22) rfl (rlC c) _ (fun wS hw => range_same HS.out.1 hw) undqr rfl (by rw [info_release, rlC_size HS.out.2.2.1])) (by assumption) ?_
                  simp only [Act.put, List.setIfInBounds_toArray, List.set_cons_zero, List.set_cons_succ]
                  refine wpAnyH_take (i := 5) (oi := { dst := some 60, op := Op.fieldAddr 27 (Operand.tmp 3) 2, type := 0, pos := "ref.go:240", after := #[], guard := none }) (v := ?vq5bR) rfl (by as_aux_lemma => kernel_rfl) (by as_aux_lemma => kernel_rfl) (by as_aux_lemma => kernel_rfl) (fun _ _ _ h => h) (Or.inl ⟨by rfl, ?yq5bR⟩) (by assumption) ?rq5bR
                  case yq5bR => (intro wS hSw; (try dsimp only at hSw); have kq1 := (hSw ⟨w.heap.size, 2, none⟩).trans k2; have kq2 := (hSw ⟨w.heap.size + 1, 2, none⟩).trans k5; go_simp <;> with_reducible rfl)
                  simp only [Act.put, List.setIfInBounds_toArray, List.set_cons_zero, List.set_cons_succ]
                  refine wpAnyH_take (i := 6) (oi := { dst := some 61, op := Op.load 25 (Operand.tmp 60), type := 25, pos := "ref.go:240", after := #[{ on := 5, ground := Ground.data }], guard := none }) (v := ?vq6bR) rfl (by as_aux_lemma => kernel_rfl) (by as_aux_lemma => kernel_rfl) (by as_aux_lemma => kernel_rfl) (fun _ _ _ h => h) (Or.inl ⟨by rfl, ?yq6bR⟩) (by assumption) ?rq6bR
                  case yq6bR => (intro wS hSw; (try dsimp only at hSw); have kq1 := (hSw ⟨w.heap.size, 2, none⟩).trans k2; have kq2 := (hSw ⟨w.heap.size + 1, 2, none⟩).trans k5; go_simp <;> with_reducible rfl)
                  simp only [Act.put, List.setIfInBounds_toArray, List.set_cons_zero, List.set_cons_succ]
                  refine wpAnyH_take (i := 7) (oi := { dst := some 62, op := Op.move (Operand.tmp 6), type := 3, pos := "ref.go:240", after := #[], guard := none }) (v := ?vq7bR) rfl (by as_aux_lemma => kernel_rfl) (by as_aux_lemma => kernel_rfl) (by as_aux_lemma => kernel_rfl) (fun _ _ _ h => h) (Or.inl ⟨by rfl, ?yq7bR⟩) (by assumption) ?rq7bR
                  case yq7bR => (intro wS hSw; (try dsimp only at hSw); have kq1 := (hSw ⟨w.heap.size, 2, none⟩).trans k2; have kq2 := (hSw ⟨w.heap.size + 1, 2, none⟩).trans k5; go_simp <;> with_reducible rfl)
                  simp only [Act.put, List.setIfInBounds_toArray, List.set_cons_zero, List.set_cons_succ]
                  refine wpAnyH_take (i := 8) (oi := { dst := some 63, op := Op.indexAddr 25 (Operand.tmp 61) (Operand.tmp 62), type := 0, pos := "ref.go:240", after := #[{ on := 6, ground := Ground.data }, { on := 7, ground := Ground.data }], guard := none }) (v := ?vq8bR) rfl (by as_aux_lemma => kernel_rfl) (by as_aux_lemma => kernel_rfl) (by as_aux_lemma => kernel_rfl) (fun _ _ _ h => h) (Or.inl ⟨by rfl, ?yq8bR⟩) (by assumption) ?rq8bR
                  case yq8bR => (intro wS hSw; (try dsimp only at hSw); have kq1 := (hSw ⟨w.heap.size, 2, none⟩).trans k2; have kq2 := (hSw ⟨w.heap.size + 1, 2, none⟩).trans k5; go_simp <;> with_reducible rfl)
                  simp only [Act.put, List.setIfInBounds_toArray, List.set_cons_zero, List.set_cons_succ]
                  refine wpAnyH_take (i := 9) (oi := { dst := some 64, op := Op.load 74 (Operand.tmp 63), type := 74, pos := "ref.go:240", after := #[{ on := 8, ground := Ground.data }], guard := none }) (v := .agg (rlC f)) rfl (by as_aux_lemma => kernel_rfl) (by as_aux_lemma => kernel_rfl) (by as_aux_lemma => kernel_rfl) (fun _ _ _ h => h) (yieldsIf_load_A (by rfl) 74 (.tmp 63) rfl (b2) (o2 + j * 22) rfl (rlC f) _ (fun wS hw => range_same HS.out.2.1 hw) undqr rfl (by rw [info_release, rlC_size HS.out.2.2.2.1])) (by assumption) ?_
                  simp only [Act.put, List.setIfInBounds_toArray, List.set_cons_zero, List.set_cons_succ]
                  refine wpAnyH_take (i := 10) (oi := { dst := some 65, op := Op.binOp BinOp.neq 74 (Operand.tmp 59) (Operand.tmp 64) 74, type := 4, pos := "ref.go:240", after := #[{ on := 4, ground := Ground.data }, { on := 9, ground := Ground.data }], guard := none }) (v := ?vq10bR) rfl (by as_aux_lemma => kernel_rfl) (by as_aux_lemma => kernel_rfl) (by as_aux_lemma => kernel_rfl) (fun _ _ _ h => h) (Or.inl ⟨by rfl, ?yq10bR⟩) (by assumption) ?rq10bR
                  case yq10bR => (intro wS hSw; (try dsimp only at hSw); have kq1 := (hSw ⟨w.heap.size, 2, none⟩).trans k2; have kq2 := (hSw ⟨w.heap.size + 1, 2, none⟩).trans k5; go_simp <;> with_reducible rfl)
                  simp only [Act.put, List.setIfInBounds_toArray, List.set_cons_zero, List.set_cons_succ]
                  refine wpAnyH_done (by as_aux_lemma => kernel_rfl) ?_ _
                  clear hHeld hQ
                  go_wp2_with fail
                  go_ret
                  obtain ⟨_, _, _, _, s5, s6, s7, s8⟩ := HS.out
                  rw [← HOK.out, decide_eq_false (fun q => HE.out (Option.some.inj (by rw [← s7, ← s8, q.2])))]
                  exact ⟨rfl, H0.out.trans ((s5.trans (show Below X.heap.size wr wr.drew from ⟨rfl, rfl, rfl, Nat.le_refl _, fun _ _ => rfl⟩)).mono H0.out.size)⟩
              · obtain rfl : n2 = j := by omega
                have he : rs = ts := by
                  rw [List.take_of_length_le (by rw [HN.out.2.1]; exact Nat.le_refl _), List.take_of_length_le (by rw [HN.out.2.2.2]; exact Nat.le_refl _)] at htk
                  exact htk
                have HE := Lib.hid (And.intro he hXw)
                clear htk he hXw
                go_wp2_with fail
                go_ret
                rw [← HOK.out, decide_eq_true (show cs = es ∧ rs = ts from ⟨HL.out.1, HE.out.1⟩)]
                exact ⟨rfl, H0.out.trans (HE.out.2.mono H0.out.size)⟩
      · subst hd hc
        have g0 : ((d : Int) == (d : Int)) = true := by simp
        have g1 : ((n1 : Int) == (n1 : Int)) = true := by simp
        have g2 : ((n2 : Int) == (n4 : Int)) = false := by simp; omega
        have hne : ¬ (d = d ∧ cs = es ∧ rs = ts) := fun h => hr (by rw [← HN.out.2.1, ← HN.out.2.2.2, h.2.2])
        rw [decide_eq_false hne]
        clear hne hr
        go_enter Tryz.func23, Tryz.ntmps23
        go_wp2_with fail
        rw [HX.out]
        go_wp2_with fail
        go_ret
        exact ⟨rfl, H0.out⟩
    · subst hd
      have g0 : ((d : Int) == (d : Int)) = true := by simp
      have g1 : ((n1 : Int) == (n3 : Int)) = false := by simp; omega
      have hne : ¬ (d = d ∧ cs = es ∧ rs = ts) := fun h => hc (by rw [← HN.out.1, ← HN.out.2.2.1, h.2.1])
      rw [decide_eq_false hne]
      clear hne hc
      go_enter Tryz.func23, Tryz.ntmps23
      go_wp2_with fail
      rw [HX.out]
      go_wp2_with fail
      go_ret
      exact ⟨rfl, H0.out⟩
  · have g0 : ¬ (d : Int) = (e : Int) := by omega
    have g1 : ((d : Int) != (e : Int)) = true := by simp; omega
    have hne : ¬ (d = e ∧ cs = es ∧ rs = ts) := fun h => hd h.1
    rw [decide_eq_false hne]
    clear hne hd
    go_enter Tryz.func23, Tryz.ntmps23
    go_wp2_with fail
    rw [HX.out]
    go_wp2_with fail
    go_ret
    exact ⟨rfl, H0.out⟩

end Go.Proofs.YtenepkgjdoddgaaGreatDoor

