/- Texts laid into one: Qb. -/
import Derived.Test.YtcdmaapjcckbmaaDoorQa
import Derived.Test.YtcdmaapjcckbmaaDoorXk
import Derived.Deep.LoopGhost
import Derived.Test.YtcdmaapjcckbmaaDoorXt
import Derived.Test.YtcdmaapjcckbmaaDoorXr
/- code: the reader: op, any words. -/
namespace Go.Proofs.YtcdmaapjcckbmaaDoor
open Go.RowKit Go.Shelf

set_option maxRecDepth 100000 in
set_option maxHeartbeats 4000000 in
theorem op_byte_ok (R bw o : Nat) (v cv : Value) (x y : ByteArray) (r : List ByteArray) (l : List Nat) (w : World) (h : RdS w R bw v (x :: (y :: r)) cv l) (hr : r.length ≤ 900000) (hlo : o < 256) (hl : l.length ≤ 900000) (hn : nb x = false) (hx : bxV x 1 = some [o]) (he : nmO o = ⟨#[]⟩) (m : Nat) (hz : szO o = m) (hm : 0 < m) (bs : List Nat) (hy : bxV y m = some bs) : Calls Tryd.prog 72 #[.pointer (some ⟨R, 0, none⟩)] w fun e w' => e = .returned (.tuple #[]) ∧ ∃ v2 cv2, RdS w' R bw v2 r cv2 (l ++ (o :: bs)) ∧ Below R w w' := by
  have hRw := h.1.lt
  have HN := Lib.hid (next_ok R bw v cv x (y :: r) l w h (by simp; omega))
  have HFI := Lib.hid (fun (Y : World) (v1 : Value) (hY : RdS Y R bw v1 (y :: r) cv l) => find_any R 1 256 x Y (fun j hj => (cell_of_row _ _ (1 + j) _ _ _ hY.1).trans (krC_name _ _ j hj)))
  rw [hn] at HFI
  have hq0 := nk_lt x
  generalize nk x = q at *
  have g0 : IntKind.u8.wrap (q : Int) = (q : Int) := IntWalk.u8_in _ (by omega)
  have HB := Lib.hid (fun w => (bytesOf_any x 1 (by decide) w).mono fun e w' h => (by unfold BoP at h; rw [hx] at h; exact h : (∃ g, e = .returned (.slice (some ⟨g, 0, none⟩) 1 1) ∧ w.heap.size ≤ g ∧ Blk w' g 5 (bvs [o]).toArray) ∧ Below w.heap.size w w'))
  have HS := Lib.hid (fun w => size_any o hlo w)
  rw [hz] at HS
  have HL := Lib.hid (And.intro hl hlo)
  have hm100 : m ≤ 100 := by rw [← hz]; unfold szO; split <;> omega
  have HY := Lib.hid hy
  clear hy
  clear h hn hx
  go_enter Tryd.func72, Tryd.ntmps72
  go_upto_region 4 with (first
    | (go_at_call 79; refine (HN.out).mono ?_; rintro e w1 ⟨rfl, v1, h1, hg1⟩; have H1 := Lib.hid (And.intro h1 hg1); clear h1 hg1)
    | (go_at_call 37; refine (HFI.out _ v1 H1.out.1).mono ?_; rintro e w2 ⟨rfl, rfl⟩)
    | fail)
  go_upto_region 5 with (first
    | (go_at_call 80; refine (HB.out _).mono ?_; rintro e w3 ⟨⟨g, rfl, hg3, hb3⟩, h3⟩; have cg := cell_of_row _ _ 0 _ _ _ hb3; have HF := Lib.hid (And.intro (H1.out.1.new h3) ((grown_below H1.out.2 (by omega)).trans (h3.mono (by have := H1.out.1.1.lt; omega)))); replace cg : w3.cell? ⟨g, 0, none⟩ = some (.int .u8 (o : Nat)) := cg; clear hg3 hb3 h3)
    | fail)
  have cn := (cell_of_row _ _ (1 + o) _ _ _ HF.out.1.1).trans (krC_name _ _ o (by omega))
  rw [he] at cn
  have ho0 : (0 : Int) ≤ (o : Int) := by omega
  have ho1 : (o : Int) < 256 := by omega
  go_upto_region 6 with (first
    | (go_at_call 81; refine (need_t _).mono ?_; rintro e w' ⟨rfl, rfl⟩)
    | fail)
  clear H1 cn cg
  have hRf := HF.out.1.1.lt
  have cC := cell_of_row _ _ 257 _ _ _ HF.out.1.1
  rw [krC_code] at cC
  have hBA := Lib.hid (balloc (Below.refl w3.heap.size w3) (.cells #[.int .u8 (o : Nat)] 5))
  have HX := Lib.hid (And.intro (HF.out.1.2.2.1.new hBA.out) (bt_new w3 o HL.out.2))
  go_upto_region 7 with (first
    | (at_builtin; refine wpList_app rfl _ _ rfl (R + 1) l HX.out.1 (w3.heap.size + 1) [o] HX.out.2 ?c1 ?c2 ?_)
    | fail)
  case c1 => have := HL.out.1; simp; omega
  case c2 => simp; omega
  intro y1 c1 w4 hO hG
  have HZ := Lib.hid (RdS.setc HF.out.1 hBA.out hG hO)
  have hB2 := RdS.blk HF.out.1 hBA.out hG
  have c2 := cell_of_row _ _ 257 _ _ _ hB2
  rw [krC_code] at c2
  have f2 := frozen_of_row _ _ 257 _ _ hB2
  clear hO hG hB2 cC hBA HX
  have hmI : (0 : Int) < (m : Int) := by omega
  go_upto_region 9 with (first
    | (go_at_call 65; refine (HS.out _).mono ?_; rintro e w' ⟨rfl, rfl⟩)
    | fail)
  generalize (Value.slice y1 (l.length + 1) c1) = cv3 at *
  generalize w4.setCell ⟨R, 257, none⟩ cv3 = w5 at *
  have hD5 := Lib.hid (below_drew' (Below.refl w5.heap.size w5))
  have H5 := Lib.hid (And.intro HL.out.1 hRf)
  have HN2 := Lib.hid (next_ok R bw v1 cv3 y r (l ++ [o]) w5.drew (HZ.out.1.new hD5.out) (by omega))
  have HB2 := Lib.hid (fun w => (bytesOf_any y m hm100 w).mono fun e w' h => (by unfold BoP at h; rw [HY.out] at h; exact h : (∃ g, e = .returned (.slice (some ⟨g, 0, none⟩) m m) ∧ w.heap.size ≤ g ∧ Blk w' g 5 (bvs bs).toArray) ∧ Below w.heap.size w w'))
  have HM := Lib.hid (And.intro (bxV_ok y m bs HY.out) hm100)
  have c5 := (cell_of_row _ _ 257 _ _ _ HZ.out.1.1).trans (krC_code _ _)
  clear c2 f2 hm100
  refine wp_region_held_drew (S := fun _ => True) (by as_aux_lemma => kernel_rfl) trivial (fun hHeld => ?_)
  simp only [List.size_toArray, List.length_cons, List.length_nil, Nat.reduceAdd, Array.replicate_succ, Array.replicate_zero, List.push_toArray, List.nil_append, List.cons_append]
  refine wpAnyH_take (i := 0) (oi := { dst := some 50, op := Op.move (Operand.tmp 0), type := 114, pos := "reader.go:62", after := #[], guard := none }) (v := ?vq0) rfl (by as_aux_lemma => kernel_rfl) (by as_aux_lemma => kernel_rfl) (by as_aux_lemma => kernel_rfl) (fun _ _ _ h => h) (Or.inl ⟨by rfl, ?yq0⟩) (by assumption) ?rq0
  case yq0 => (intro w hSw; (try dsimp only at hSw); go_simp <;> with_reducible rfl)
  simp only [Act.put, List.setIfInBounds_toArray, List.set_cons_zero, List.set_cons_succ]
  refine wpAnyH_take (i := 1) (oi := { dst := some 51, op := Op.move (Operand.tmp 0), type := 114, pos := "reader.go:62", after := #[], guard := none }) (v := ?vq1) rfl (by as_aux_lemma => kernel_rfl) (by as_aux_lemma => kernel_rfl) (by as_aux_lemma => kernel_rfl) (fun _ _ _ h => h) (Or.inl ⟨by rfl, ?yq1⟩) (by assumption) ?rq1
  case yq1 => (intro w hSw; (try dsimp only at hSw); go_simp <;> with_reducible rfl)
  simp only [Act.put, List.setIfInBounds_toArray, List.set_cons_zero, List.set_cons_succ]
  refine wpAnyH_take (i := 2) (oi := { dst := some 52, op := Op.nilCheck (Operand.tmp 51), type := 0, pos := "reader.go:62", after := #[{ on := 1, ground := Ground.data }], guard := none }) (v := ?vq2) rfl (by as_aux_lemma => kernel_rfl) (by as_aux_lemma => kernel_rfl) (by as_aux_lemma => kernel_rfl) (fun _ _ _ h => h) (Or.inl ⟨by rfl, ?yq2⟩) (by assumption) ?rq2
  case yq2 => (intro w hSw; (try dsimp only at hSw); go_simp <;> with_reducible rfl)
  simp only [Act.put, List.setIfInBounds_toArray, List.set_cons_zero, List.set_cons_succ]
  refine wpAnyH_take (i := 3) (oi := { dst := some 53, op := Op.fieldAddr 105 (Operand.tmp 52) 2, type := 0, pos := "reader.go:62", after := #[{ on := 2, ground := Ground.data }], guard := none }) (v := ?vq3) rfl (by as_aux_lemma => kernel_rfl) (by as_aux_lemma => kernel_rfl) (by as_aux_lemma => kernel_rfl) (fun _ _ _ h => h) (Or.inl ⟨by rfl, ?yq3⟩) (by assumption) ?rq3
  case yq3 => (intro w hSw; (try dsimp only at hSw); go_simp <;> with_reducible rfl)
  simp only [Act.put, List.setIfInBounds_toArray, List.set_cons_zero, List.set_cons_succ]
  refine wpAnyH_take (i := 5) (oi := { dst := some 55, op := Op.move (Operand.tmp 0), type := 114, pos := "reader.go:62", after := #[], guard := none }) (v := ?vq4) rfl (by as_aux_lemma => kernel_rfl) (by as_aux_lemma => kernel_rfl) (by as_aux_lemma => kernel_rfl) (fun _ _ _ h => h) (Or.inl ⟨by rfl, ?yq4⟩) (by assumption) ?rq4
  case yq4 => (intro w hSw; (try dsimp only at hSw); go_simp <;> with_reducible rfl)
  simp only [Act.put, List.setIfInBounds_toArray, List.set_cons_zero, List.set_cons_succ]
  refine wpAnyH_take (i := 6) (oi := { dst := some 56, op := Op.nilCheck (Operand.tmp 55), type := 0, pos := "reader.go:62", after := #[{ on := 5, ground := Ground.data }], guard := none }) (v := ?vq5) rfl (by as_aux_lemma => kernel_rfl) (by as_aux_lemma => kernel_rfl) (by as_aux_lemma => kernel_rfl) (fun _ _ _ h => h) (Or.inl ⟨by rfl, ?yq5⟩) (by assumption) ?rq5
  case yq5 => (intro w hSw; (try dsimp only at hSw); go_simp <;> with_reducible rfl)
  simp only [Act.put, List.setIfInBounds_toArray, List.set_cons_zero, List.set_cons_succ]
  refine wpAnyH_take (i := 7) (oi := { dst := some 57, op := Op.fieldAddr 105 (Operand.tmp 56) 0, type := 0, pos := "reader.go:62", after := #[{ on := 6, ground := Ground.data }], guard := none }) (v := ?vq6) rfl (by as_aux_lemma => kernel_rfl) (by as_aux_lemma => kernel_rfl) (by as_aux_lemma => kernel_rfl) (fun _ _ _ h => h) (Or.inl ⟨by rfl, ?yq6⟩) (by assumption) ?rq6
  case yq6 => (intro w hSw; (try dsimp only at hSw); go_simp <;> with_reducible rfl)
  simp only [Act.put, List.setIfInBounds_toArray, List.set_cons_zero, List.set_cons_succ]
  refine wpAnyH_take (i := 9) (oi := { dst := some 59, op := Op.move (Operand.tmp 6), type := 3, pos := "reader.go:62", after := #[], guard := none }) (v := ?vq7) rfl (by as_aux_lemma => kernel_rfl) (by as_aux_lemma => kernel_rfl) (by as_aux_lemma => kernel_rfl) (fun _ _ _ h => h) (Or.inl ⟨by rfl, ?yq7⟩) (by assumption) ?rq7
  case yq7 => (intro w hSw; (try dsimp only at hSw); go_simp <;> with_reducible rfl)
  simp only [Act.put, List.setIfInBounds_toArray, List.set_cons_zero, List.set_cons_succ]
  refine wpAnyH_ready (rs := [4, 8]) (by as_aux_lemma => kernel_rfl) (by simp) ?_
  refine AllReadyH.cons (o := { dst := some 54, op := Op.load 32 (Operand.tmp 53), type := 32, pos := "reader.go:62", after := #[{ on := 3, ground := Ground.data }], guard := none }) rfl (fun K hK => ?_) ?_
  · rw [if_pos (by rfl)]
    go_simp
    refine hK.out _ _ (by (try dsimp only); (try trivial)) (fun hHeld => ?_)
    clear hK K
    simp only [List.setIfInBounds_toArray, List.set_cons_zero, List.set_cons_succ]
    refine wpAnyH_ready (rs := [8]) (by as_aux_lemma => kernel_rfl) (by simp) ?_
    refine AllReadyH.cons (o := { dst := some 58, op := Op.call { callee := Callee.value (Operand.func 79), args := #[Operand.tmp 57], argTypes := #[103] }, type := 9, pos := "reader.go:62", after := #[{ on := 7, ground := Ground.data }], guard := none }) rfl (fun K hK => ?_) (by exact AllReadyH.nil)
    rw [if_pos (by rfl)]
    go_simp
    refine (HN2.out).mono ?_
    rintro e w6 ⟨rfl, v2, h2, hg2⟩
    have c6 := (cell_of_row _ _ 257 _ _ _ h2.1).trans (krC_code _ _)
    have H2 := Lib.hid (And.intro h2 ((hD5.out.mono (by have := HZ.out.1.1.lt; omega)).trans (grown_below hg2 (by have := HZ.out.1.1.lt; have := hD5.out.size; omega))))
    clear h2 hg2
    refine hK.out _ _ (by (try dsimp only); (try trivial)) (fun hHeld => ?_)
    clear hK K
    simp only [List.setIfInBounds_toArray, List.set_cons_zero, List.set_cons_succ]
    refine wpAnyH_ready (rs := [10]) (by as_aux_lemma => kernel_rfl) (by simp) ?_
    refine AllReadyH.cons (o := { dst := some 60, op := Op.call { callee := Callee.value (Operand.func 80), args := #[Operand.tmp 58, Operand.tmp 59], argTypes := #[9, 3] }, type := 32, pos := "reader.go:62", after := #[{ on := 8, ground := Ground.data }, { on := 9, ground := Ground.data }, { on := 8, ground := Ground.chain }], guard := none }) rfl (fun K hK => ?_) (by exact AllReadyH.nil)
    rw [if_pos (by rfl)]
    go_simp
    refine (HB2.out _).mono ?_
    rintro e w7 ⟨⟨g7, rfl, hg7, hb7⟩, h7⟩
    have H7 := H2.out.1.new h7
    have h7R := H7.1.lt
    have c7 := (cell_of_row _ _ 257 _ _ _ H7.1).trans (krC_code _ _)
    have hbt7 := Bto.of_blk hb7 HM.out.1.2 (by rw [HM.out.1.1]; have := HM.out.2; omega)
    rw [HM.out.1.1] at hbt7
    obtain ⟨y8, n8, c8, w8, hrun, hO8, hG8⟩ := run_app (R + 1) cv3 (l ++ [o]) H7.2.2.1 w7.heap.size _ bs hbt7 (by intro n c e; cases e) (by rw [HM.out.1.1, List.length_append]; have := HM.out.2; have := H5.out.1; simp; omega) (by omega)
    have hB8 := RdS.blk H7 (Below.refl _ _) hG8
    have c8' := (cell_of_row _ _ 257 _ _ _ hB8).trans (krC_code _ _)
    have f8 := frozen_of_row _ _ 257 _ _ hB8
    have HE := Lib.hid (RdS.setc H7 (Below.refl _ _) hG8 hO8)
    have HE2 := Lib.hid (HF.out.2.trans (HZ.out.2.trans (H2.out.2.trans ((h7.mono (by have := H2.out.1.1.lt; omega)).trans HE.out.2))))
    clear hg7 hb7 h7 H7 hbt7 hO8 hG8 hB8
    refine hK.out _ _ (by (try dsimp only); (try trivial)) (fun hHeld => ?_)
    clear hK K
    simp only [List.setIfInBounds_toArray, List.set_cons_zero, List.set_cons_succ]
    refine wpAnyH_ready (rs := [11]) (by as_aux_lemma => kernel_rfl) (by simp) ?_
    refine AllReadyH.cons (o := { dst := some 61, op := Op.call { callee := Callee.builtin Builtin.append, args := #[Operand.tmp 54, Operand.tmp 60], argTypes := #[32, 32] }, type := 32, pos := "reader.go:62", after := #[{ on := 4, ground := Ground.data }, { on := 10, ground := Ground.data }, { on := 10, ground := Ground.chain }], guard := none }) rfl (fun K hK => ?_) (by exact AllReadyH.nil)
    rw [if_pos (by rfl)]
    refine wp_app_run (.tmp 54) (.tmp 60) 32 rfl rfl rfl hrun ?_
    refine hK.out _ _ (by (try dsimp only); (try trivial)) (fun hHeld => ?_)
    clear hK K
    simp only [List.setIfInBounds_toArray, List.set_cons_zero, List.set_cons_succ]
    refine wpAnyH_take (i := 12) (oi := { dst := some 62, op := Op.nilCheck (Operand.tmp 50), type := 0, pos := "reader.go:62", after := #[{ on := 0, ground := Ground.data }, { on := 0, ground := Ground.phase }, { on := 1, ground := Ground.phase }, { on := 2, ground := Ground.phase }, { on := 3, ground := Ground.phase }, { on := 4, ground := Ground.phase }, { on := 5, ground := Ground.phase }, { on := 6, ground := Ground.phase }, { on := 7, ground := Ground.phase }, { on := 8, ground := Ground.phase }, { on := 9, ground := Ground.phase }, { on := 10, ground := Ground.phase }, { on := 11, ground := Ground.phase }], guard := none }) (v := ?vq12) rfl (by as_aux_lemma => kernel_rfl) (by as_aux_lemma => kernel_rfl) (by as_aux_lemma => kernel_rfl) (fun _ _ _ h => h) (Or.inl ⟨by rfl, ?yq12⟩) (by assumption) ?rq12
    case yq12 => (intro w hSw; (try dsimp only at hSw); go_simp <;> with_reducible rfl)
    simp only [Act.put, List.setIfInBounds_toArray, List.set_cons_zero, List.set_cons_succ]
    refine wpAnyH_take (i := 13) (oi := { dst := some 63, op := Op.fieldAddr 105 (Operand.tmp 62) 2, type := 0, pos := "reader.go:62", after := #[{ on := 12, ground := Ground.data }, { on := 0, ground := Ground.phase }, { on := 1, ground := Ground.phase }, { on := 2, ground := Ground.phase }, { on := 3, ground := Ground.phase }, { on := 4, ground := Ground.phase }, { on := 5, ground := Ground.phase }, { on := 6, ground := Ground.phase }, { on := 7, ground := Ground.phase }, { on := 8, ground := Ground.phase }, { on := 9, ground := Ground.phase }, { on := 10, ground := Ground.phase }, { on := 11, ground := Ground.phase }], guard := none }) (v := ?vq13) rfl (by as_aux_lemma => kernel_rfl) (by as_aux_lemma => kernel_rfl) (by as_aux_lemma => kernel_rfl) (fun _ _ _ h => h) (Or.inl ⟨by rfl, ?yq13⟩) (by assumption) ?rq13
    case yq13 => (intro w hSw; (try dsimp only at hSw); go_simp <;> with_reducible rfl)
    simp only [Act.put, List.setIfInBounds_toArray, List.set_cons_zero, List.set_cons_succ]
    refine wpAnyH_ready (rs := [14]) (by as_aux_lemma => kernel_rfl) (by simp) ?_
    refine AllReadyH.cons (o := { dst := none, op := Op.store 32 (Operand.tmp 63) (Operand.tmp 61), type := 0, pos := "reader.go:62", after := #[{ on := 13, ground := Ground.data }, { on := 11, ground := Ground.data }, { on := 11, ground := Ground.chain }, { on := 0, ground := Ground.phase }, { on := 1, ground := Ground.phase }, { on := 2, ground := Ground.phase }, { on := 3, ground := Ground.phase }, { on := 4, ground := Ground.phase }, { on := 5, ground := Ground.phase }, { on := 6, ground := Ground.phase }, { on := 7, ground := Ground.phase }, { on := 8, ground := Ground.phase }, { on := 9, ground := Ground.phase }, { on := 10, ground := Ground.phase }, { on := 11, ground := Ground.phase }], guard := none }) rfl (fun K hK => ?_) (by exact AllReadyH.nil)
    rw [if_pos (by rfl)]
    go_simp
    refine hK.out _ _ (by (try dsimp only); (try trivial)) (fun hHeld => ?_)
    clear hK K
    simp only [List.setIfInBounds_toArray, List.set_cons_zero, List.set_cons_succ]
    refine wpAnyH_done (by as_aux_lemma => kernel_rfl) ?_ _
    clear hrun
    have HG := Lib.hid (show l ++ [o] ++ bs = l ++ (o :: bs) by simp)
    go_wp2_with fail
    go_end0
    exact ⟨rfl, _, _, (by rw [← HG.out]; exact HE.out.1), HE2.out⟩
  refine AllReadyH.cons (o := { dst := some 58, op := Op.call { callee := Callee.value (Operand.func 79), args := #[Operand.tmp 57], argTypes := #[103] }, type := 9, pos := "reader.go:62", after := #[{ on := 7, ground := Ground.data }], guard := none }) rfl (fun K hK => ?_) (by exact AllReadyH.nil)
  rw [if_pos (by rfl)]
  go_simp
  refine (HN2.out).mono ?_
  rintro e w6 ⟨rfl, v2, h2, hg2⟩
  have c6 := (cell_of_row _ _ 257 _ _ _ h2.1).trans (krC_code _ _)
  have H2 := Lib.hid (And.intro h2 ((hD5.out.mono (by have := HZ.out.1.1.lt; omega)).trans (grown_below hg2 (by have := HZ.out.1.1.lt; have := hD5.out.size; omega))))
  clear h2 hg2
  refine hK.out _ _ (by (try dsimp only); (try trivial)) (fun hHeld => ?_)
  clear hK K
  simp only [List.setIfInBounds_toArray, List.set_cons_zero, List.set_cons_succ]
  refine wpAnyH_ready (rs := [4, 10]) (by as_aux_lemma => kernel_rfl) (by simp) ?_
  refine AllReadyH.cons (o := { dst := some 54, op := Op.load 32 (Operand.tmp 53), type := 32, pos := "reader.go:62", after := #[{ on := 3, ground := Ground.data }], guard := none }) rfl (fun K hK => ?_) ?_
  · rw [if_pos (by rfl)]
    go_simp
    refine hK.out _ _ (by (try dsimp only); (try trivial)) (fun hHeld => ?_)
    clear hK K
    simp only [List.setIfInBounds_toArray, List.set_cons_zero, List.set_cons_succ]
    refine wpAnyH_ready (rs := [10]) (by as_aux_lemma => kernel_rfl) (by simp) ?_
    refine AllReadyH.cons (o := { dst := some 60, op := Op.call { callee := Callee.value (Operand.func 80), args := #[Operand.tmp 58, Operand.tmp 59], argTypes := #[9, 3] }, type := 32, pos := "reader.go:62", after := #[{ on := 8, ground := Ground.data }, { on := 9, ground := Ground.data }, { on := 8, ground := Ground.chain }], guard := none }) rfl (fun K hK => ?_) (by exact AllReadyH.nil)
    rw [if_pos (by rfl)]
    go_simp
    refine (HB2.out _).mono ?_
    rintro e w7 ⟨⟨g7, rfl, hg7, hb7⟩, h7⟩
    have H7 := H2.out.1.new h7
    have h7R := H7.1.lt
    have c7 := (cell_of_row _ _ 257 _ _ _ H7.1).trans (krC_code _ _)
    have hbt7 := Bto.of_blk hb7 HM.out.1.2 (by rw [HM.out.1.1]; have := HM.out.2; omega)
    rw [HM.out.1.1] at hbt7
    obtain ⟨y8, n8, c8, w8, hrun, hO8, hG8⟩ := run_app (R + 1) cv3 (l ++ [o]) H7.2.2.1 w7.heap.size _ bs hbt7 (by intro n c e; cases e) (by rw [HM.out.1.1, List.length_append]; have := HM.out.2; have := H5.out.1; simp; omega) (by omega)
    have hB8 := RdS.blk H7 (Below.refl _ _) hG8
    have c8' := (cell_of_row _ _ 257 _ _ _ hB8).trans (krC_code _ _)
    have f8 := frozen_of_row _ _ 257 _ _ hB8
    have HE := Lib.hid (RdS.setc H7 (Below.refl _ _) hG8 hO8)
    have HE2 := Lib.hid (HF.out.2.trans (HZ.out.2.trans (H2.out.2.trans ((h7.mono (by have := H2.out.1.1.lt; omega)).trans HE.out.2))))
    clear hg7 hb7 h7 H7 hbt7 hO8 hG8 hB8
    refine hK.out _ _ (by (try dsimp only); (try trivial)) (fun hHeld => ?_)
    clear hK K
    simp only [List.setIfInBounds_toArray, List.set_cons_zero, List.set_cons_succ]
    refine wpAnyH_ready (rs := [11]) (by as_aux_lemma => kernel_rfl) (by simp) ?_
    refine AllReadyH.cons (o := { dst := some 61, op := Op.call { callee := Callee.builtin Builtin.append, args := #[Operand.tmp 54, Operand.tmp 60], argTypes := #[32, 32] }, type := 32, pos := "reader.go:62", after := #[{ on := 4, ground := Ground.data }, { on := 10, ground := Ground.data }, { on := 10, ground := Ground.chain }], guard := none }) rfl (fun K hK => ?_) (by exact AllReadyH.nil)
    rw [if_pos (by rfl)]
    refine wp_app_run (.tmp 54) (.tmp 60) 32 rfl rfl rfl hrun ?_
    refine hK.out _ _ (by (try dsimp only); (try trivial)) (fun hHeld => ?_)
    clear hK K
    simp only [List.setIfInBounds_toArray, List.set_cons_zero, List.set_cons_succ]
    refine wpAnyH_take (i := 12) (oi := { dst := some 62, op := Op.nilCheck (Operand.tmp 50), type := 0, pos := "reader.go:62", after := #[{ on := 0, ground := Ground.data }, { on := 0, ground := Ground.phase }, { on := 1, ground := Ground.phase }, { on := 2, ground := Ground.phase }, { on := 3, ground := Ground.phase }, { on := 4, ground := Ground.phase }, { on := 5, ground := Ground.phase }, { on := 6, ground := Ground.phase }, { on := 7, ground := Ground.phase }, { on := 8, ground := Ground.phase }, { on := 9, ground := Ground.phase }, { on := 10, ground := Ground.phase }, { on := 11, ground := Ground.phase }], guard := none }) (v := ?vq19) rfl (by as_aux_lemma => kernel_rfl) (by as_aux_lemma => kernel_rfl) (by as_aux_lemma => kernel_rfl) (fun _ _ _ h => h) (Or.inl ⟨by rfl, ?yq19⟩) (by assumption) ?rq19
    case yq19 => (intro w hSw; (try dsimp only at hSw); go_simp <;> with_reducible rfl)
    simp only [Act.put, List.setIfInBounds_toArray, List.set_cons_zero, List.set_cons_succ]
    refine wpAnyH_take (i := 13) (oi := { dst := some 63, op := Op.fieldAddr 105 (Operand.tmp 62) 2, type := 0, pos := "reader.go:62", after := #[{ on := 12, ground := Ground.data }, { on := 0, ground := Ground.phase }, { on := 1, ground := Ground.phase }, { on := 2, ground := Ground.phase }, { on := 3, ground := Ground.phase }, { on := 4, ground := Ground.phase }, { on := 5, ground := Ground.phase }, { on := 6, ground := Ground.phase }, { on := 7, ground := Ground.phase }, { on := 8, ground := Ground.phase }, { on := 9, ground := Ground.phase }, { on := 10, ground := Ground.phase }, { on := 11, ground := Ground.phase }], guard := none }) (v := ?vq20) rfl (by as_aux_lemma => kernel_rfl) (by as_aux_lemma => kernel_rfl) (by as_aux_lemma => kernel_rfl) (fun _ _ _ h => h) (Or.inl ⟨by rfl, ?yq20⟩) (by assumption) ?rq20
    case yq20 => (intro w hSw; (try dsimp only at hSw); go_simp <;> with_reducible rfl)
    simp only [Act.put, List.setIfInBounds_toArray, List.set_cons_zero, List.set_cons_succ]
    refine wpAnyH_ready (rs := [14]) (by as_aux_lemma => kernel_rfl) (by simp) ?_
    refine AllReadyH.cons (o := { dst := none, op := Op.store 32 (Operand.tmp 63) (Operand.tmp 61), type := 0, pos := "reader.go:62", after := #[{ on := 13, ground := Ground.data }, { on := 11, ground := Ground.data }, { on := 11, ground := Ground.chain }, { on := 0, ground := Ground.phase }, { on := 1, ground := Ground.phase }, { on := 2, ground := Ground.phase }, { on := 3, ground := Ground.phase }, { on := 4, ground := Ground.phase }, { on := 5, ground := Ground.phase }, { on := 6, ground := Ground.phase }, { on := 7, ground := Ground.phase }, { on := 8, ground := Ground.phase }, { on := 9, ground := Ground.phase }, { on := 10, ground := Ground.phase }, { on := 11, ground := Ground.phase }], guard := none }) rfl (fun K hK => ?_) (by exact AllReadyH.nil)
    rw [if_pos (by rfl)]
    go_simp
    refine hK.out _ _ (by (try dsimp only); (try trivial)) (fun hHeld => ?_)
    clear hK K
    simp only [List.setIfInBounds_toArray, List.set_cons_zero, List.set_cons_succ]
    refine wpAnyH_done (by as_aux_lemma => kernel_rfl) ?_ _
    clear hrun
    have HG := Lib.hid (show l ++ [o] ++ bs = l ++ (o :: bs) by simp)
    go_wp2_with fail
    go_end0
    exact ⟨rfl, _, _, (by rw [← HG.out]; exact HE.out.1), HE2.out⟩
  refine AllReadyH.cons (o := { dst := some 60, op := Op.call { callee := Callee.value (Operand.func 80), args := #[Operand.tmp 58, Operand.tmp 59], argTypes := #[9, 3] }, type := 32, pos := "reader.go:62", after := #[{ on := 8, ground := Ground.data }, { on := 9, ground := Ground.data }, { on := 8, ground := Ground.chain }], guard := none }) rfl (fun K hK => ?_) (by exact AllReadyH.nil)
  rw [if_pos (by rfl)]
  go_simp
  refine (HB2.out _).mono ?_
  rintro e w7 ⟨⟨g7, rfl, hg7, hb7⟩, h7⟩
  have H7 := H2.out.1.new h7
  have h7R := H7.1.lt
  have c7 := (cell_of_row _ _ 257 _ _ _ H7.1).trans (krC_code _ _)
  have hbt7 := Bto.of_blk hb7 HM.out.1.2 (by rw [HM.out.1.1]; have := HM.out.2; omega)
  rw [HM.out.1.1] at hbt7
  obtain ⟨y8, n8, c8, w8, hrun, hO8, hG8⟩ := run_app (R + 1) cv3 (l ++ [o]) H7.2.2.1 w7.heap.size _ bs hbt7 (by intro n c e; cases e) (by rw [HM.out.1.1, List.length_append]; have := HM.out.2; have := H5.out.1; simp; omega) (by omega)
  have hB8 := RdS.blk H7 (Below.refl _ _) hG8
  have c8' := (cell_of_row _ _ 257 _ _ _ hB8).trans (krC_code _ _)
  have f8 := frozen_of_row _ _ 257 _ _ hB8
  have HE := Lib.hid (RdS.setc H7 (Below.refl _ _) hG8 hO8)
  have HE2 := Lib.hid (HF.out.2.trans (HZ.out.2.trans (H2.out.2.trans ((h7.mono (by have := H2.out.1.1.lt; omega)).trans HE.out.2))))
  clear hg7 hb7 h7 H7 hbt7 hO8 hG8 hB8
  refine hK.out _ _ (by (try dsimp only); (try trivial)) (fun hHeld => ?_)
  clear hK K
  simp only [List.setIfInBounds_toArray, List.set_cons_zero, List.set_cons_succ]
  refine wpAnyH_ready (rs := [4]) (by as_aux_lemma => kernel_rfl) (by simp) ?_
  refine AllReadyH.cons (o := { dst := some 54, op := Op.load 32 (Operand.tmp 53), type := 32, pos := "reader.go:62", after := #[{ on := 3, ground := Ground.data }], guard := none }) rfl (fun K hK => ?_) (by exact AllReadyH.nil)
  rw [if_pos (by rfl)]
  go_simp
  refine hK.out _ _ (by (try dsimp only); (try trivial)) (fun hHeld => ?_)
  clear hK K
  simp only [List.setIfInBounds_toArray, List.set_cons_zero, List.set_cons_succ]
  refine wpAnyH_ready (rs := [11]) (by as_aux_lemma => kernel_rfl) (by simp) ?_
  refine AllReadyH.cons (o := { dst := some 61, op := Op.call { callee := Callee.builtin Builtin.append, args := #[Operand.tmp 54, Operand.tmp 60], argTypes := #[32, 32] }, type := 32, pos := "reader.go:62", after := #[{ on := 4, ground := Ground.data }, { on := 10, ground := Ground.data }, { on := 10, ground := Ground.chain }], guard := none }) rfl (fun K hK => ?_) (by exact AllReadyH.nil)
  rw [if_pos (by rfl)]
  refine wp_app_run (.tmp 54) (.tmp 60) 32 rfl rfl rfl hrun ?_
  refine hK.out _ _ (by (try dsimp only); (try trivial)) (fun hHeld => ?_)
  clear hK K
  simp only [List.setIfInBounds_toArray, List.set_cons_zero, List.set_cons_succ]
  refine wpAnyH_take (i := 12) (oi := { dst := some 62, op := Op.nilCheck (Operand.tmp 50), type := 0, pos := "reader.go:62", after := #[{ on := 0, ground := Ground.data }, { on := 0, ground := Ground.phase }, { on := 1, ground := Ground.phase }, { on := 2, ground := Ground.phase }, { on := 3, ground := Ground.phase }, { on := 4, ground := Ground.phase }, { on := 5, ground := Ground.phase }, { on := 6, ground := Ground.phase }, { on := 7, ground := Ground.phase }, { on := 8, ground := Ground.phase }, { on := 9, ground := Ground.phase }, { on := 10, ground := Ground.phase }, { on := 11, ground := Ground.phase }], guard := none }) (v := ?vq25) rfl (by as_aux_lemma => kernel_rfl) (by as_aux_lemma => kernel_rfl) (by as_aux_lemma => kernel_rfl) (fun _ _ _ h => h) (Or.inl ⟨by rfl, ?yq25⟩) (by assumption) ?rq25
  case yq25 => (intro w hSw; (try dsimp only at hSw); go_simp <;> with_reducible rfl)
  simp only [Act.put, List.setIfInBounds_toArray, List.set_cons_zero, List.set_cons_succ]
  refine wpAnyH_take (i := 13) (oi := { dst := some 63, op := Op.fieldAddr 105 (Operand.tmp 62) 2, type := 0, pos := "reader.go:62", after := #[{ on := 12, ground := Ground.data }, { on := 0, ground := Ground.phase }, { on := 1, ground := Ground.phase }, { on := 2, ground := Ground.phase }, { on := 3, ground := Ground.phase }, { on := 4, ground := Ground.phase }, { on := 5, ground := Ground.phase }, { on := 6, ground := Ground.phase }, { on := 7, ground := Ground.phase }, { on := 8, ground := Ground.phase }, { on := 9, ground := Ground.phase }, { on := 10, ground := Ground.phase }, { on := 11, ground := Ground.phase }], guard := none }) (v := ?vq26) rfl (by as_aux_lemma => kernel_rfl) (by as_aux_lemma => kernel_rfl) (by as_aux_lemma => kernel_rfl) (fun _ _ _ h => h) (Or.inl ⟨by rfl, ?yq26⟩) (by assumption) ?rq26
  case yq26 => (intro w hSw; (try dsimp only at hSw); go_simp <;> with_reducible rfl)
  simp only [Act.put, List.setIfInBounds_toArray, List.set_cons_zero, List.set_cons_succ]
  refine wpAnyH_ready (rs := [14]) (by as_aux_lemma => kernel_rfl) (by simp) ?_
  refine AllReadyH.cons (o := { dst := none, op := Op.store 32 (Operand.tmp 63) (Operand.tmp 61), type := 0, pos := "reader.go:62", after := #[{ on := 13, ground := Ground.data }, { on := 11, ground := Ground.data }, { on := 11, ground := Ground.chain }, { on := 0, ground := Ground.phase }, { on := 1, ground := Ground.phase }, { on := 2, ground := Ground.phase }, { on := 3, ground := Ground.phase }, { on := 4, ground := Ground.phase }, { on := 5, ground := Ground.phase }, { on := 6, ground := Ground.phase }, { on := 7, ground := Ground.phase }, { on := 8, ground := Ground.phase }, { on := 9, ground := Ground.phase }, { on := 10, ground := Ground.phase }, { on := 11, ground := Ground.phase }], guard := none }) rfl (fun K hK => ?_) (by exact AllReadyH.nil)
  rw [if_pos (by rfl)]
  go_simp
  refine hK.out _ _ (by (try dsimp only); (try trivial)) (fun hHeld => ?_)
  clear hK K
  simp only [List.setIfInBounds_toArray, List.set_cons_zero, List.set_cons_succ]
  refine wpAnyH_done (by as_aux_lemma => kernel_rfl) ?_ _
  clear hrun
  have HG := Lib.hid (show l ++ [o] ++ bs = l ++ (o :: bs) by simp)
  go_wp2_with fail
  go_end0
  exact ⟨rfl, _, _, (by rw [← HG.out]; exact HE.out.1), HE2.out⟩
set_option maxRecDepth 100000 in
set_option maxHeartbeats 4000000 in
theorem op_byte_none (R bw o : Nat) (v cv : Value) (x : ByteArray) (l : List Nat) (w : World) (h : RdS w R bw v (x :: []) cv l) (hlo : o < 256) (hl : l.length ≤ 900000) (hn : nb x = false) (hx : bxV x 1 = some [o]) (he : nmO o = ⟨#[]⟩) (m : Nat) (hz : szO o = m) (hm : 0 < m) : Calls Tryd.prog 72 #[.pointer (some ⟨R, 0, none⟩)] w fun e w' => e = .panicked ch200 ∧ Below R w w' := by
  have hRw := h.1.lt
  have HN := Lib.hid (next_ok R bw v cv x [] l w h (by simp))
  have HFI := Lib.hid (fun (Y : World) (v1 : Value) (hY : RdS Y R bw v1 [] cv l) => find_any R 1 256 x Y (fun j hj => (cell_of_row _ _ (1 + j) _ _ _ hY.1).trans (krC_name _ _ j hj)))
  rw [hn] at HFI
  have hq0 := nk_lt x
  generalize nk x = q at *
  have g0 : IntKind.u8.wrap (q : Int) = (q : Int) := IntWalk.u8_in _ (by omega)
  have HB := Lib.hid (fun w => (bytesOf_any x 1 (by decide) w).mono fun e w' h => (by unfold BoP at h; rw [hx] at h; exact h : (∃ g, e = .returned (.slice (some ⟨g, 0, none⟩) 1 1) ∧ w.heap.size ≤ g ∧ Blk w' g 5 (bvs [o]).toArray) ∧ Below w.heap.size w w'))
  have HS := Lib.hid (fun w => size_any o hlo w)
  rw [hz] at HS
  have HL := Lib.hid (And.intro hl hlo)
  have hm100 : m ≤ 100 := by rw [← hz]; unfold szO; split <;> omega
  clear h hn hx
  go_enter Tryd.func72, Tryd.ntmps72
  go_upto_region 4 with (first
    | (go_at_call 79; refine (HN.out).mono ?_; rintro e w1 ⟨rfl, v1, h1, hg1⟩; have H1 := Lib.hid (And.intro h1 hg1); clear h1 hg1)
    | (go_at_call 37; refine (HFI.out _ v1 H1.out.1).mono ?_; rintro e w2 ⟨rfl, rfl⟩)
    | fail)
  go_upto_region 5 with (first
    | (go_at_call 80; refine (HB.out _).mono ?_; rintro e w3 ⟨⟨g, rfl, hg3, hb3⟩, h3⟩; have cg := cell_of_row _ _ 0 _ _ _ hb3; have HF := Lib.hid (And.intro (H1.out.1.new h3) ((grown_below H1.out.2 (by omega)).trans (h3.mono (by have := H1.out.1.1.lt; omega)))); replace cg : w3.cell? ⟨g, 0, none⟩ = some (.int .u8 (o : Nat)) := cg; clear hg3 hb3 h3)
    | fail)
  have cn := (cell_of_row _ _ (1 + o) _ _ _ HF.out.1.1).trans (krC_name _ _ o (by omega))
  rw [he] at cn
  have ho0 : (0 : Int) ≤ (o : Int) := by omega
  have ho1 : (o : Int) < 256 := by omega
  go_upto_region 6 with (first
    | (go_at_call 81; refine (need_t _).mono ?_; rintro e w' ⟨rfl, rfl⟩)
    | fail)
  clear H1 cn cg
  have hRf := HF.out.1.1.lt
  have cC := cell_of_row _ _ 257 _ _ _ HF.out.1.1
  rw [krC_code] at cC
  have hBA := Lib.hid (balloc (Below.refl w3.heap.size w3) (.cells #[.int .u8 (o : Nat)] 5))
  have HX := Lib.hid (And.intro (HF.out.1.2.2.1.new hBA.out) (bt_new w3 o HL.out.2))
  go_upto_region 7 with (first
    | (at_builtin; refine wpList_app rfl _ _ rfl (R + 1) l HX.out.1 (w3.heap.size + 1) [o] HX.out.2 ?c1 ?c2 ?_)
    | fail)
  case c1 => have := HL.out.1; simp; omega
  case c2 => simp; omega
  intro y1 c1 w4 hO hG
  have HZ := Lib.hid (RdS.setc HF.out.1 hBA.out hG hO)
  have hB2 := RdS.blk HF.out.1 hBA.out hG
  have c2 := cell_of_row _ _ 257 _ _ _ hB2
  rw [krC_code] at c2
  have f2 := frozen_of_row _ _ 257 _ _ hB2
  clear hO hG hB2 cC hBA HX
  have hmI : (0 : Int) < (m : Int) := by omega
  go_upto_region 9 with (first
    | (go_at_call 65; refine (HS.out _).mono ?_; rintro e w' ⟨rfl, rfl⟩)
    | fail)
  generalize (Value.slice y1 (l.length + 1) c1) = cv3 at *
  generalize w4.setCell ⟨R, 257, none⟩ cv3 = w5 at *
  have hD5 := Lib.hid (below_drew' (Below.refl w5.heap.size w5))
  have H5 := Lib.hid (And.intro HL.out.1 hRf)
  have HN2 := Lib.hid (next_bad R bw v1 cv3 (l ++ [o]) w5.drew (HZ.out.1.new hD5.out))
  have c5 := (cell_of_row _ _ 257 _ _ _ HZ.out.1.1).trans (krC_code _ _)
  clear c2 f2 hm100
  refine wp_region_held_drew (S := fun _ => True) (by as_aux_lemma => kernel_rfl) trivial (fun hHeld => ?_)
  simp only [List.size_toArray, List.length_cons, List.length_nil, Nat.reduceAdd, Array.replicate_succ, Array.replicate_zero, List.push_toArray, List.nil_append, List.cons_append]
  refine wpAnyH_take (i := 0) (oi := { dst := some 50, op := Op.move (Operand.tmp 0), type := 114, pos := "reader.go:62", after := #[], guard := none }) (v := ?vq0) rfl (by as_aux_lemma => kernel_rfl) (by as_aux_lemma => kernel_rfl) (by as_aux_lemma => kernel_rfl) (fun _ _ _ h => h) (Or.inl ⟨by rfl, ?yq0⟩) (by assumption) ?rq0
  case yq0 => (intro w hSw; (try dsimp only at hSw); go_simp <;> with_reducible rfl)
  simp only [Act.put, List.setIfInBounds_toArray, List.set_cons_zero, List.set_cons_succ]
  refine wpAnyH_take (i := 1) (oi := { dst := some 51, op := Op.move (Operand.tmp 0), type := 114, pos := "reader.go:62", after := #[], guard := none }) (v := ?vq1) rfl (by as_aux_lemma => kernel_rfl) (by as_aux_lemma => kernel_rfl) (by as_aux_lemma => kernel_rfl) (fun _ _ _ h => h) (Or.inl ⟨by rfl, ?yq1⟩) (by assumption) ?rq1
  case yq1 => (intro w hSw; (try dsimp only at hSw); go_simp <;> with_reducible rfl)
  simp only [Act.put, List.setIfInBounds_toArray, List.set_cons_zero, List.set_cons_succ]
  refine wpAnyH_take (i := 2) (oi := { dst := some 52, op := Op.nilCheck (Operand.tmp 51), type := 0, pos := "reader.go:62", after := #[{ on := 1, ground := Ground.data }], guard := none }) (v := ?vq2) rfl (by as_aux_lemma => kernel_rfl) (by as_aux_lemma => kernel_rfl) (by as_aux_lemma => kernel_rfl) (fun _ _ _ h => h) (Or.inl ⟨by rfl, ?yq2⟩) (by assumption) ?rq2
  case yq2 => (intro w hSw; (try dsimp only at hSw); go_simp <;> with_reducible rfl)
  simp only [Act.put, List.setIfInBounds_toArray, List.set_cons_zero, List.set_cons_succ]
  refine wpAnyH_take (i := 3) (oi := { dst := some 53, op := Op.fieldAddr 105 (Operand.tmp 52) 2, type := 0, pos := "reader.go:62", after := #[{ on := 2, ground := Ground.data }], guard := none }) (v := ?vq3) rfl (by as_aux_lemma => kernel_rfl) (by as_aux_lemma => kernel_rfl) (by as_aux_lemma => kernel_rfl) (fun _ _ _ h => h) (Or.inl ⟨by rfl, ?yq3⟩) (by assumption) ?rq3
  case yq3 => (intro w hSw; (try dsimp only at hSw); go_simp <;> with_reducible rfl)
  simp only [Act.put, List.setIfInBounds_toArray, List.set_cons_zero, List.set_cons_succ]
  refine wpAnyH_take (i := 5) (oi := { dst := some 55, op := Op.move (Operand.tmp 0), type := 114, pos := "reader.go:62", after := #[], guard := none }) (v := ?vq4) rfl (by as_aux_lemma => kernel_rfl) (by as_aux_lemma => kernel_rfl) (by as_aux_lemma => kernel_rfl) (fun _ _ _ h => h) (Or.inl ⟨by rfl, ?yq4⟩) (by assumption) ?rq4
  case yq4 => (intro w hSw; (try dsimp only at hSw); go_simp <;> with_reducible rfl)
  simp only [Act.put, List.setIfInBounds_toArray, List.set_cons_zero, List.set_cons_succ]
  refine wpAnyH_take (i := 6) (oi := { dst := some 56, op := Op.nilCheck (Operand.tmp 55), type := 0, pos := "reader.go:62", after := #[{ on := 5, ground := Ground.data }], guard := none }) (v := ?vq5) rfl (by as_aux_lemma => kernel_rfl) (by as_aux_lemma => kernel_rfl) (by as_aux_lemma => kernel_rfl) (fun _ _ _ h => h) (Or.inl ⟨by rfl, ?yq5⟩) (by assumption) ?rq5
  case yq5 => (intro w hSw; (try dsimp only at hSw); go_simp <;> with_reducible rfl)
  simp only [Act.put, List.setIfInBounds_toArray, List.set_cons_zero, List.set_cons_succ]
  refine wpAnyH_take (i := 7) (oi := { dst := some 57, op := Op.fieldAddr 105 (Operand.tmp 56) 0, type := 0, pos := "reader.go:62", after := #[{ on := 6, ground := Ground.data }], guard := none }) (v := ?vq6) rfl (by as_aux_lemma => kernel_rfl) (by as_aux_lemma => kernel_rfl) (by as_aux_lemma => kernel_rfl) (fun _ _ _ h => h) (Or.inl ⟨by rfl, ?yq6⟩) (by assumption) ?rq6
  case yq6 => (intro w hSw; (try dsimp only at hSw); go_simp <;> with_reducible rfl)
  simp only [Act.put, List.setIfInBounds_toArray, List.set_cons_zero, List.set_cons_succ]
  refine wpAnyH_take (i := 9) (oi := { dst := some 59, op := Op.move (Operand.tmp 6), type := 3, pos := "reader.go:62", after := #[], guard := none }) (v := ?vq7) rfl (by as_aux_lemma => kernel_rfl) (by as_aux_lemma => kernel_rfl) (by as_aux_lemma => kernel_rfl) (fun _ _ _ h => h) (Or.inl ⟨by rfl, ?yq7⟩) (by assumption) ?rq7
  case yq7 => (intro w hSw; (try dsimp only at hSw); go_simp <;> with_reducible rfl)
  simp only [Act.put, List.setIfInBounds_toArray, List.set_cons_zero, List.set_cons_succ]
  refine wpAnyH_ready (rs := [4, 8]) (by as_aux_lemma => kernel_rfl) (by simp) ?_
  refine AllReadyH.cons (o := { dst := some 54, op := Op.load 32 (Operand.tmp 53), type := 32, pos := "reader.go:62", after := #[{ on := 3, ground := Ground.data }], guard := none }) rfl (fun K hK => ?_) ?_
  · rw [if_pos (by rfl)]
    go_simp
    refine hK.out _ _ (by (try dsimp only); (try trivial)) (fun hHeld => ?_)
    clear hK K
    simp only [List.setIfInBounds_toArray, List.set_cons_zero, List.set_cons_succ]
    refine wpAnyH_ready (rs := [8]) (by as_aux_lemma => kernel_rfl) (by simp) ?_
    refine AllReadyH.cons (o := { dst := some 58, op := Op.call { callee := Callee.value (Operand.func 79), args := #[Operand.tmp 57], argTypes := #[103] }, type := 9, pos := "reader.go:62", after := #[{ on := 7, ground := Ground.data }], guard := none }) rfl (fun K hK => ?_) (by exact AllReadyH.nil)
    rw [if_pos (by rfl)]
    go_simp
    refine (HN2.out).mono ?_
    rintro e w6 ⟨rfl, rfl⟩
    exact ⟨rfl, rfl, HF.out.2.trans (HZ.out.2.trans (hD5.out.mono (by have := HZ.out.1.1.lt; omega)))⟩
  refine AllReadyH.cons (o := { dst := some 58, op := Op.call { callee := Callee.value (Operand.func 79), args := #[Operand.tmp 57], argTypes := #[103] }, type := 9, pos := "reader.go:62", after := #[{ on := 7, ground := Ground.data }], guard := none }) rfl (fun K hK => ?_) (by exact AllReadyH.nil)
  rw [if_pos (by rfl)]
  go_simp
  refine (HN2.out).mono ?_
  rintro e w6 ⟨rfl, rfl⟩
  exact ⟨rfl, rfl, HF.out.2.trans (HZ.out.2.trans (hD5.out.mono (by have := HZ.out.1.1.lt; omega)))⟩
set_option maxRecDepth 100000 in
set_option maxHeartbeats 4000000 in
theorem op_byte_fail (R bw o : Nat) (v cv : Value) (x y : ByteArray) (r : List ByteArray) (l : List Nat) (w : World) (h : RdS w R bw v (x :: (y :: r)) cv l) (hr : r.length ≤ 900000) (hlo : o < 256) (hl : l.length ≤ 900000) (hn : nb x = false) (hx : bxV x 1 = some [o]) (he : nmO o = ⟨#[]⟩) (m : Nat) (hz : szO o = m) (hm : 0 < m) (hy : bxV y m = none) : Calls Tryd.prog 72 #[.pointer (some ⟨R, 0, none⟩)] w fun e w' => e = .panicked ch200 ∧ Below R w w' := by
  have hRw := h.1.lt
  have HN := Lib.hid (next_ok R bw v cv x (y :: r) l w h (by simp; omega))
  have HFI := Lib.hid (fun (Y : World) (v1 : Value) (hY : RdS Y R bw v1 (y :: r) cv l) => find_any R 1 256 x Y (fun j hj => (cell_of_row _ _ (1 + j) _ _ _ hY.1).trans (krC_name _ _ j hj)))
  rw [hn] at HFI
  have hq0 := nk_lt x
  generalize nk x = q at *
  have g0 : IntKind.u8.wrap (q : Int) = (q : Int) := IntWalk.u8_in _ (by omega)
  have HB := Lib.hid (fun w => (bytesOf_any x 1 (by decide) w).mono fun e w' h => (by unfold BoP at h; rw [hx] at h; exact h : (∃ g, e = .returned (.slice (some ⟨g, 0, none⟩) 1 1) ∧ w.heap.size ≤ g ∧ Blk w' g 5 (bvs [o]).toArray) ∧ Below w.heap.size w w'))
  have HS := Lib.hid (fun w => size_any o hlo w)
  rw [hz] at HS
  have HL := Lib.hid (And.intro hl hlo)
  have hm100 : m ≤ 100 := by rw [← hz]; unfold szO; split <;> omega
  have HY := Lib.hid hy
  clear hy
  clear h hn hx
  go_enter Tryd.func72, Tryd.ntmps72
  go_upto_region 4 with (first
    | (go_at_call 79; refine (HN.out).mono ?_; rintro e w1 ⟨rfl, v1, h1, hg1⟩; have H1 := Lib.hid (And.intro h1 hg1); clear h1 hg1)
    | (go_at_call 37; refine (HFI.out _ v1 H1.out.1).mono ?_; rintro e w2 ⟨rfl, rfl⟩)
    | fail)
  go_upto_region 5 with (first
    | (go_at_call 80; refine (HB.out _).mono ?_; rintro e w3 ⟨⟨g, rfl, hg3, hb3⟩, h3⟩; have cg := cell_of_row _ _ 0 _ _ _ hb3; have HF := Lib.hid (And.intro (H1.out.1.new h3) ((grown_below H1.out.2 (by omega)).trans (h3.mono (by have := H1.out.1.1.lt; omega)))); replace cg : w3.cell? ⟨g, 0, none⟩ = some (.int .u8 (o : Nat)) := cg; clear hg3 hb3 h3)
    | fail)
  have cn := (cell_of_row _ _ (1 + o) _ _ _ HF.out.1.1).trans (krC_name _ _ o (by omega))
  rw [he] at cn
  have ho0 : (0 : Int) ≤ (o : Int) := by omega
  have ho1 : (o : Int) < 256 := by omega
  go_upto_region 6 with (first
    | (go_at_call 81; refine (need_t _).mono ?_; rintro e w' ⟨rfl, rfl⟩)
    | fail)
  clear H1 cn cg
  have hRf := HF.out.1.1.lt
  have cC := cell_of_row _ _ 257 _ _ _ HF.out.1.1
  rw [krC_code] at cC
  have hBA := Lib.hid (balloc (Below.refl w3.heap.size w3) (.cells #[.int .u8 (o : Nat)] 5))
  have HX := Lib.hid (And.intro (HF.out.1.2.2.1.new hBA.out) (bt_new w3 o HL.out.2))
  go_upto_region 7 with (first
    | (at_builtin; refine wpList_app rfl _ _ rfl (R + 1) l HX.out.1 (w3.heap.size + 1) [o] HX.out.2 ?c1 ?c2 ?_)
    | fail)
  case c1 => have := HL.out.1; simp; omega
  case c2 => simp; omega
  intro y1 c1 w4 hO hG
  have HZ := Lib.hid (RdS.setc HF.out.1 hBA.out hG hO)
  have hB2 := RdS.blk HF.out.1 hBA.out hG
  have c2 := cell_of_row _ _ 257 _ _ _ hB2
  rw [krC_code] at c2
  have f2 := frozen_of_row _ _ 257 _ _ hB2
  clear hO hG hB2 cC hBA HX
  have hmI : (0 : Int) < (m : Int) := by omega
  go_upto_region 9 with (first
    | (go_at_call 65; refine (HS.out _).mono ?_; rintro e w' ⟨rfl, rfl⟩)
    | fail)
  generalize (Value.slice y1 (l.length + 1) c1) = cv3 at *
  generalize w4.setCell ⟨R, 257, none⟩ cv3 = w5 at *
  have hD5 := Lib.hid (below_drew' (Below.refl w5.heap.size w5))
  have H5 := Lib.hid (And.intro HL.out.1 hRf)
  have HN2 := Lib.hid (next_ok R bw v1 cv3 y r (l ++ [o]) w5.drew (HZ.out.1.new hD5.out) (by omega))
  have HB2 := Lib.hid (fun w => (bytesOf_any y m hm100 w).mono fun e w' h => (by unfold BoP at h; rw [HY.out] at h; exact h : e = .panicked ch200 ∧ Below w.heap.size w w'))
  have c5 := (cell_of_row _ _ 257 _ _ _ HZ.out.1.1).trans (krC_code _ _)
  clear c2 f2 hm100
  refine wp_region_held_drew (S := fun _ => True) (by as_aux_lemma => kernel_rfl) trivial (fun hHeld => ?_)
  simp only [List.size_toArray, List.length_cons, List.length_nil, Nat.reduceAdd, Array.replicate_succ, Array.replicate_zero, List.push_toArray, List.nil_append, List.cons_append]
  refine wpAnyH_take (i := 0) (oi := { dst := some 50, op := Op.move (Operand.tmp 0), type := 114, pos := "reader.go:62", after := #[], guard := none }) (v := ?vq0) rfl (by as_aux_lemma => kernel_rfl) (by as_aux_lemma => kernel_rfl) (by as_aux_lemma => kernel_rfl) (fun _ _ _ h => h) (Or.inl ⟨by rfl, ?yq0⟩) (by assumption) ?rq0
  case yq0 => (intro w hSw; (try dsimp only at hSw); go_simp <;> with_reducible rfl)
  simp only [Act.put, List.setIfInBounds_toArray, List.set_cons_zero, List.set_cons_succ]
  refine wpAnyH_take (i := 1) (oi := { dst := some 51, op := Op.move (Operand.tmp 0), type := 114, pos := "reader.go:62", after := #[], guard := none }) (v := ?vq1) rfl (by as_aux_lemma => kernel_rfl) (by as_aux_lemma => kernel_rfl) (by as_aux_lemma => kernel_rfl) (fun _ _ _ h => h) (Or.inl ⟨by rfl, ?yq1⟩) (by assumption) ?rq1
  case yq1 => (intro w hSw; (try dsimp only at hSw); go_simp <;> with_reducible rfl)
  simp only [Act.put, List.setIfInBounds_toArray, List.set_cons_zero, List.set_cons_succ]
  refine wpAnyH_take (i := 2) (oi := { dst := some 52, op := Op.nilCheck (Operand.tmp 51), type := 0, pos := "reader.go:62", after := #[{ on := 1, ground := Ground.data }], guard := none }) (v := ?vq2) rfl (by as_aux_lemma => kernel_rfl) (by as_aux_lemma => kernel_rfl) (by as_aux_lemma => kernel_rfl) (fun _ _ _ h => h) (Or.inl ⟨by rfl, ?yq2⟩) (by assumption) ?rq2
  case yq2 => (intro w hSw; (try dsimp only at hSw); go_simp <;> with_reducible rfl)
  simp only [Act.put, List.setIfInBounds_toArray, List.set_cons_zero, List.set_cons_succ]
  refine wpAnyH_take (i := 3) (oi := { dst := some 53, op := Op.fieldAddr 105 (Operand.tmp 52) 2, type := 0, pos := "reader.go:62", after := #[{ on := 2, ground := Ground.data }], guard := none }) (v := ?vq3) rfl (by as_aux_lemma => kernel_rfl) (by as_aux_lemma => kernel_rfl) (by as_aux_lemma => kernel_rfl) (fun _ _ _ h => h) (Or.inl ⟨by rfl, ?yq3⟩) (by assumption) ?rq3
  case yq3 => (intro w hSw; (try dsimp only at hSw); go_simp <;> with_reducible rfl)
  simp only [Act.put, List.setIfInBounds_toArray, List.set_cons_zero, List.set_cons_succ]
  refine wpAnyH_take (i := 5) (oi := { dst := some 55, op := Op.move (Operand.tmp 0), type := 114, pos := "reader.go:62", after := #[], guard := none }) (v := ?vq4) rfl (by as_aux_lemma => kernel_rfl) (by as_aux_lemma => kernel_rfl) (by as_aux_lemma => kernel_rfl) (fun _ _ _ h => h) (Or.inl ⟨by rfl, ?yq4⟩) (by assumption) ?rq4
  case yq4 => (intro w hSw; (try dsimp only at hSw); go_simp <;> with_reducible rfl)
  simp only [Act.put, List.setIfInBounds_toArray, List.set_cons_zero, List.set_cons_succ]
  refine wpAnyH_take (i := 6) (oi := { dst := some 56, op := Op.nilCheck (Operand.tmp 55), type := 0, pos := "reader.go:62", after := #[{ on := 5, ground := Ground.data }], guard := none }) (v := ?vq5) rfl (by as_aux_lemma => kernel_rfl) (by as_aux_lemma => kernel_rfl) (by as_aux_lemma => kernel_rfl) (fun _ _ _ h => h) (Or.inl ⟨by rfl, ?yq5⟩) (by assumption) ?rq5
  case yq5 => (intro w hSw; (try dsimp only at hSw); go_simp <;> with_reducible rfl)
  simp only [Act.put, List.setIfInBounds_toArray, List.set_cons_zero, List.set_cons_succ]
  refine wpAnyH_take (i := 7) (oi := { dst := some 57, op := Op.fieldAddr 105 (Operand.tmp 56) 0, type := 0, pos := "reader.go:62", after := #[{ on := 6, ground := Ground.data }], guard := none }) (v := ?vq6) rfl (by as_aux_lemma => kernel_rfl) (by as_aux_lemma => kernel_rfl) (by as_aux_lemma => kernel_rfl) (fun _ _ _ h => h) (Or.inl ⟨by rfl, ?yq6⟩) (by assumption) ?rq6
  case yq6 => (intro w hSw; (try dsimp only at hSw); go_simp <;> with_reducible rfl)
  simp only [Act.put, List.setIfInBounds_toArray, List.set_cons_zero, List.set_cons_succ]
  refine wpAnyH_take (i := 9) (oi := { dst := some 59, op := Op.move (Operand.tmp 6), type := 3, pos := "reader.go:62", after := #[], guard := none }) (v := ?vq7) rfl (by as_aux_lemma => kernel_rfl) (by as_aux_lemma => kernel_rfl) (by as_aux_lemma => kernel_rfl) (fun _ _ _ h => h) (Or.inl ⟨by rfl, ?yq7⟩) (by assumption) ?rq7
  case yq7 => (intro w hSw; (try dsimp only at hSw); go_simp <;> with_reducible rfl)
  simp only [Act.put, List.setIfInBounds_toArray, List.set_cons_zero, List.set_cons_succ]
  refine wpAnyH_ready (rs := [4, 8]) (by as_aux_lemma => kernel_rfl) (by simp) ?_
  refine AllReadyH.cons (o := { dst := some 54, op := Op.load 32 (Operand.tmp 53), type := 32, pos := "reader.go:62", after := #[{ on := 3, ground := Ground.data }], guard := none }) rfl (fun K hK => ?_) ?_
  · rw [if_pos (by rfl)]
    go_simp
    refine hK.out _ _ (by (try dsimp only); (try trivial)) (fun hHeld => ?_)
    clear hK K
    simp only [List.setIfInBounds_toArray, List.set_cons_zero, List.set_cons_succ]
    refine wpAnyH_ready (rs := [8]) (by as_aux_lemma => kernel_rfl) (by simp) ?_
    refine AllReadyH.cons (o := { dst := some 58, op := Op.call { callee := Callee.value (Operand.func 79), args := #[Operand.tmp 57], argTypes := #[103] }, type := 9, pos := "reader.go:62", after := #[{ on := 7, ground := Ground.data }], guard := none }) rfl (fun K hK => ?_) (by exact AllReadyH.nil)
    rw [if_pos (by rfl)]
    go_simp
    refine (HN2.out).mono ?_
    rintro e w6 ⟨rfl, v2, h2, hg2⟩
    have c6 := (cell_of_row _ _ 257 _ _ _ h2.1).trans (krC_code _ _)
    have H2 := Lib.hid (And.intro h2 ((hD5.out.mono (by have := HZ.out.1.1.lt; omega)).trans (grown_below hg2 (by have := HZ.out.1.1.lt; have := hD5.out.size; omega))))
    clear h2 hg2
    refine hK.out _ _ (by (try dsimp only); (try trivial)) (fun hHeld => ?_)
    clear hK K
    simp only [List.setIfInBounds_toArray, List.set_cons_zero, List.set_cons_succ]
    refine wpAnyH_ready (rs := [10]) (by as_aux_lemma => kernel_rfl) (by simp) ?_
    refine AllReadyH.cons (o := { dst := some 60, op := Op.call { callee := Callee.value (Operand.func 80), args := #[Operand.tmp 58, Operand.tmp 59], argTypes := #[9, 3] }, type := 32, pos := "reader.go:62", after := #[{ on := 8, ground := Ground.data }, { on := 9, ground := Ground.data }, { on := 8, ground := Ground.chain }], guard := none }) rfl (fun K hK => ?_) (by exact AllReadyH.nil)
    rw [if_pos (by rfl)]
    go_simp
    refine (HB2.out _).mono ?_
    rintro e w7 ⟨rfl, h7⟩
    exact ⟨rfl, rfl, HF.out.2.trans (HZ.out.2.trans (H2.out.2.trans (h7.mono (by have := H2.out.1.1.lt; omega))))⟩
  refine AllReadyH.cons (o := { dst := some 58, op := Op.call { callee := Callee.value (Operand.func 79), args := #[Operand.tmp 57], argTypes := #[103] }, type := 9, pos := "reader.go:62", after := #[{ on := 7, ground := Ground.data }], guard := none }) rfl (fun K hK => ?_) (by exact AllReadyH.nil)
  rw [if_pos (by rfl)]
  go_simp
  refine (HN2.out).mono ?_
  rintro e w6 ⟨rfl, v2, h2, hg2⟩
  have c6 := (cell_of_row _ _ 257 _ _ _ h2.1).trans (krC_code _ _)
  have H2 := Lib.hid (And.intro h2 ((hD5.out.mono (by have := HZ.out.1.1.lt; omega)).trans (grown_below hg2 (by have := HZ.out.1.1.lt; have := hD5.out.size; omega))))
  clear h2 hg2
  refine hK.out _ _ (by (try dsimp only); (try trivial)) (fun hHeld => ?_)
  clear hK K
  simp only [List.setIfInBounds_toArray, List.set_cons_zero, List.set_cons_succ]
  refine wpAnyH_ready (rs := [4, 10]) (by as_aux_lemma => kernel_rfl) (by simp) ?_
  refine AllReadyH.cons (o := { dst := some 54, op := Op.load 32 (Operand.tmp 53), type := 32, pos := "reader.go:62", after := #[{ on := 3, ground := Ground.data }], guard := none }) rfl (fun K hK => ?_) ?_
  · rw [if_pos (by rfl)]
    go_simp
    refine hK.out _ _ (by (try dsimp only); (try trivial)) (fun hHeld => ?_)
    clear hK K
    simp only [List.setIfInBounds_toArray, List.set_cons_zero, List.set_cons_succ]
    refine wpAnyH_ready (rs := [10]) (by as_aux_lemma => kernel_rfl) (by simp) ?_
    refine AllReadyH.cons (o := { dst := some 60, op := Op.call { callee := Callee.value (Operand.func 80), args := #[Operand.tmp 58, Operand.tmp 59], argTypes := #[9, 3] }, type := 32, pos := "reader.go:62", after := #[{ on := 8, ground := Ground.data }, { on := 9, ground := Ground.data }, { on := 8, ground := Ground.chain }], guard := none }) rfl (fun K hK => ?_) (by exact AllReadyH.nil)
    rw [if_pos (by rfl)]
    go_simp
    refine (HB2.out _).mono ?_
    rintro e w7 ⟨rfl, h7⟩
    exact ⟨rfl, rfl, HF.out.2.trans (HZ.out.2.trans (H2.out.2.trans (h7.mono (by have := H2.out.1.1.lt; omega))))⟩
  refine AllReadyH.cons (o := { dst := some 60, op := Op.call { callee := Callee.value (Operand.func 80), args := #[Operand.tmp 58, Operand.tmp 59], argTypes := #[9, 3] }, type := 32, pos := "reader.go:62", after := #[{ on := 8, ground := Ground.data }, { on := 9, ground := Ground.data }, { on := 8, ground := Ground.chain }], guard := none }) rfl (fun K hK => ?_) (by exact AllReadyH.nil)
  rw [if_pos (by rfl)]
  go_simp
  refine (HB2.out _).mono ?_
  rintro e w7 ⟨rfl, h7⟩
  exact ⟨rfl, rfl, HF.out.2.trans (HZ.out.2.trans (H2.out.2.trans (h7.mono (by have := H2.out.1.1.lt; omega))))⟩
/-- What op comes to. -/
def OpP (R bw : Nat) (l : List Nat) (p : Option (List Nat × List ByteArray)) (w : World) (e : Ending) (w' : World) : Prop := match p with
  | some (b, r) => e = .returned (.tuple #[]) ∧ ∃ v2 cv2, RdS w' R bw v2 r cv2 (l ++ b) ∧ Below R w w'
  | none => e = .panicked ch200 ∧ Below R w w'
theorem op_any (R bw : Nat) (v cv : Value) (x : ByteArray) (r : List ByteArray) (l : List Nat) (w : World) (h : RdS w R bw v (x :: r) cv l) (hr : r.length ≤ 900000) (hl : l.length ≤ 900000) : Calls Tryd.prog 72 #[.pointer (some ⟨R, 0, none⟩)] w fun e w' => OpP R bw l (prOp (x :: r)) w e w' := by
  have hz : ∀ o, szO o ≠ 0 → 0 < szO o := fun o h => by omega
  cases hn : nb x with
  | true =>
    have hp : prN x = some (nk x) := by simp only [prN, hn, if_true]
    by_cases h0 : szO (nk x) = 0
    · refine (op_name_0 R bw (nk x) v cv x r l w h hr hl hn rfl h0).mono fun e w' hh => ?_
      rw [show prOp (x :: r) = some ([nk x], r) by simp only [prOp, hp]; rw [if_pos h0]]
      exact hh
    · cases r with
      | nil =>
        refine (op_name_none R bw (nk x) v cv x l w h hl hn rfl _ rfl (hz _ h0)).mono fun e w' hh => ?_
        rw [show prOp [x] = none by simp only [prOp, hp]; rw [if_neg h0]]
        exact hh
      | cons y r =>
        have hr' : r.length ≤ 900000 := by simp at hr; omega
        cases hy : bxV y (szO (nk x)) with
        | none =>
          refine (op_name_fail R bw (nk x) v cv x y r l w h hr' hl hn rfl _ rfl (hz _ h0) hy).mono fun e w' hh => ?_
          rw [show prOp (x :: y :: r) = none by simp only [prOp, hp]; rw [if_neg h0]; simp only [hy]]
          exact hh
        | some bs =>
          refine (op_name_ok R bw (nk x) v cv x y r l w h hr' hl hn rfl _ rfl (hz _ h0) bs hy).mono fun e w' hh => ?_
          rw [show prOp (x :: y :: r) = some (nk x :: bs, r) by simp only [prOp, hp]; rw [if_neg h0]; simp only [hy]]
          exact hh
  | false =>
    cases hx : bxV x 1 with
    | none =>
      refine (op_bad R bw v cv x r l w h hr hn hx).mono fun e w' hh => ?_
      rw [show prOp (x :: r) = none by simp only [prOp, prN, hn, hx]; rfl]
      exact hh
    | some bs =>
      obtain ⟨o, rfl⟩ : ∃ o, bs = [o] := List.length_eq_one_iff.1 (bxV_ok x 1 bs hx).1
      have hlo := bxV_lt x o hx
      by_cases he : nmO o = ⟨#[]⟩
      · have hp : prN x = some o := by simp only [prN, hn, hx, Bool.false_eq_true, if_false, List.getD_cons_zero]; rw [if_pos he]
        by_cases h0 : szO o = 0
        · refine (op_byte_0 R bw o v cv x r l w h hr hlo hl hn hx he h0).mono fun e w' hh => ?_
          rw [show prOp (x :: r) = some ([o], r) by simp only [prOp, hp]; rw [if_pos h0]]
          exact hh
        · cases r with
          | nil =>
            refine (op_byte_none R bw o v cv x l w h hlo hl hn hx he _ rfl (hz _ h0)).mono fun e w' hh => ?_
            rw [show prOp [x] = none by simp only [prOp, hp]; rw [if_neg h0]]
            exact hh
          | cons y r =>
            have hr' : r.length ≤ 900000 := by simp at hr; omega
            cases hy : bxV y (szO o) with
            | none =>
              refine (op_byte_fail R bw o v cv x y r l w h hr' hlo hl hn hx he _ rfl (hz _ h0) hy).mono fun e w' hh => ?_
              rw [show prOp (x :: y :: r) = none by simp only [prOp, hp]; rw [if_neg h0]; simp only [hy]]
              exact hh
            | some bs =>
              refine (op_byte_ok R bw o v cv x y r l w h hr' hlo hl hn hx he _ rfl (hz _ h0) bs hy).mono fun e w' hh => ?_
              rw [show prOp (x :: y :: r) = some (o :: bs, r) by simp only [prOp, hp]; rw [if_neg h0]; simp only [hy]]
              exact hh
      · refine (op_named R bw o v cv x r l w h hr hn hx he).mono fun e w' hh => ?_
        rw [show prOp (x :: r) = none by simp only [prOp, prN, hn, hx, Bool.false_eq_true, if_false, List.getD_cons_zero]; rw [if_neg he]]
        exact hh
end Go.Proofs.YtcdmaapjcckbmaaDoor

/- code: the reader: a text's words, the code that they tell. -/
namespace Go.Proofs.YtcdmaapjcckbmaaDoor
open Go.RowKit Go.Shelf

def wsM (ws : List ByteArray) : Nat := (ws.map fun x => x.size + 1).sum
theorem wsM_cons (x : ByteArray) (ws : List ByteArray) : wsM (x :: ws) = x.size + 1 + wsM ws := by simp [wsM]
theorem wsM_pcs (c : UInt8) : ∀ (n : Nat) (s : ByteArray), s.size ≤ n → wsM (pcs c s) ≤ s.size + 1
  | n, s, hn => by
    rcases Lib.indexB_cases s ⟨#[c]⟩ with h | ⟨i, h, hi⟩
    · rw [pcs_miss h, wsM_cons]
      simp [wsM]
    · have h1 : (ByteArray.mk #[c]).size = 1 := rfl
      cases n with
      | zero => omega
      | succ n =>
        rw [pcs_hit h, wsM_cons]
        have e1 : (s.extract 0 i).size = i := by rw [ByteArray.size_extract]; omega
        have e2 : (s.extract (i + 1) s.size).size = s.size - (i + 1) := by rw [ByteArray.size_extract]; omega
        have := wsM_pcs c n (s.extract (i + 1) s.size) (by omega)
        omega
theorem trimP_len (l p : List UInt8) : (Lib.trimPrefix l p).length ≤ l.length := by
  unfold Lib.trimPrefix
  split <;> simp
theorem bxV_size {y : ByteArray} {m : Nat} {bs : List Nat} (h : bxV y m = some bs) : bs.length ≤ y.size := by
  have hl := (bxV_ok y m bs h).1
  unfold bxV at h
  split at h
  · rename_i hc
    have := trimP_len y.data.toList [48, 120]
    have e : y.data.toList.length = y.size := rfl
    omega
  · cases h
theorem prOp_len {ws r : List ByteArray} {b : List Nat} (h : prOp ws = some (b, r)) : b.length + wsM r ≤ wsM ws ∧ r.length < ws.length := by
  cases ws with
  | nil => cases h
  | cons x t =>
    simp only [prOp] at h
    cases ho : prN x with
    | none => rw [ho] at h; cases h
    | some o =>
      rw [ho] at h
      simp only at h
      split at h
      · injection h with h
        injection h with h1 h2
        subst h1
        subst h2
        rw [wsM_cons]
        simp
      · cases t with
        | nil => cases h
        | cons y t2 =>
          simp only at h
          cases hy : bxV y (szO o) with
          | none => rw [hy] at h; cases h
          | some bs =>
            rw [hy] at h
            injection h with h
            injection h with h1 h2
            subst h1
            subst h2
            have := bxV_size hy
            rw [wsM_cons, wsM_cons]
            simp
            omega
/-- The code that words tell. -/
def rdW : Nat → List ByteArray → Option (List Nat)
  | _, [] => some []
  | 0, _ :: _ => none
  | n + 1, x :: r => match prOp (x :: r) with
    | none => none
    | some (b, t) => (rdW n t).map (b ++ ·)
theorem rdW_none {n : Nat} {x : ByteArray} {r : List ByteArray} (h : prOp (x :: r) = none) : rdW n (x :: r) = none := by
  cases n with
  | zero => rfl
  | succ n => simp only [rdW, h]
theorem rdW_some {n : Nat} {x : ByteArray} {r t : List ByteArray} {b : List Nat} (h : prOp (x :: r) = some (b, t)) : rdW (n + 1) (x :: r) = (rdW n t).map (b ++ ·) := by
  simp only [rdW, h]
/-- The code that a text tells. -/
def rdT (s : ByteArray) : Option (List Nat) := rdW (pcs 32 s).length (pcs 32 s)
set_option maxRecDepth 100000 in
theorem build_reader (y : Option Addr) (n c : Nat) (w : World) : (Instr.build 105 #[(0, .slice y n c), (1, .agg (nmV 256))]).run Tryd.prog w = .ok (.agg (krC (.slice y n c) (.slice none 0 0))) w := by
  unfold krC
  exact run_build w _ _ _ (by kernel_rfl)
set_option maxRecDepth 100000 in
theorem catch_idle (p q : Addr) (w : World) :
    CallsD Tryd.prog 70 #[.pointer (some p), .pointer (some q)] .returning w fun e u' w' => e = .returned (.tuple #[]) ∧ u' = .returning ∧ w' = w := by
  refine callsD_of_wpS Tryd.func70 rfl fun c₀ cs hu => ?_
  apply wpS_seq
  apply wpS_region
  simp [wpOpsS, go_sem, recoverD, hu, Tryd.ntmps70, Exit.thenS]
  rw [show (#[Value.pointer (some p), Value.pointer (some q)] ++ ((Array.replicate 14 undef).setIfInBounds 3 .nilIface).setIfInBounds 0 .nilIface : Array Value) = #[.pointer (some p), .pointer (some q), .nilIface, undef, undef, .nilIface, undef, undef, undef, undef, undef, undef, undef, undef, undef, undef] from rfl]
  refine wpS_of_wp ?_
  have hta : ∀ w, (Instr.typeAssert .nilIface 20 47 true).run Tryd.prog w = .ok (.tuple #[.int .i64 0, .bool false]) w := fun w => by kernel_rfl
  go_wp2_with fail
  cases c₀
  simp_all [bodyPostS, results, Tryd.results70]
set_option maxRecDepth 100000 in
theorem catch_errno (A : Nat) (x : Value) (z k : Int) (older : List PanicEntry) (w : World) (hp : w.cell? ⟨A, 0, none⟩ = some x) (fp : w.frozen? ⟨A, 0, none⟩ = false) (hc : w.cell? ⟨A + 1, 0, none⟩ = some (.int .i64 z)) (hz : w.frozen? ⟨A + 1, 0, none⟩ = false) :
    CallsD Tryd.prog 70 #[.pointer (some ⟨A, 0, none⟩), .pointer (some ⟨A + 1, 0, none⟩)] (.panicking ({ v := .iface 47 (.int .i64 k), recovered := false } :: older)) w fun e u' w' =>
      e = .returned (.tuple #[]) ∧ u' = .panicking ({ v := .iface 47 (.int .i64 k), recovered := true } :: older) ∧ w' = (w.setCell ⟨A, 0, none⟩ (.slice none 0 0)).setCell ⟨A + 1, 0, none⟩ (.int .i64 k) := by
  refine callsD_of_wpS Tryd.func70 rfl fun c₀ cs hu => ?_
  apply wpS_seq
  apply wpS_region
  simp [wpOpsS, go_sem, recoverD, hu, Tryd.ntmps70, Exit.thenS]
  rw [show (#[Value.pointer (some ⟨A, 0, none⟩), Value.pointer (some ⟨A + 1, 0, none⟩)] ++ ((Array.replicate 14 undef).setIfInBounds 3 (.iface 47 (.int .i64 k))).setIfInBounds 0 (.iface 47 (.int .i64 k)) : Array Value) = #[.pointer (some ⟨A, 0, none⟩), .pointer (some ⟨A + 1, 0, none⟩), .iface 47 (.int .i64 k), undef, undef, .iface 47 (.int .i64 k), undef, undef, undef, undef, undef, undef, undef, undef, undef, undef] from rfl]
  refine wpS_of_wp ?_
  have hta : ∀ w, (Instr.typeAssert (.iface 47 (.int .i64 k)) 20 47 true).run Tryd.prog w = .ok (.tuple #[.int .i64 k, .bool true]) w := fun w => by kernel_rfl
  go_wp2_with fail
  simp [bodyPostS, results, Tryd.results70]
end Go.Proofs.YtcdmaapjcckbmaaDoor

/- code: the reader: read, any text. -/
namespace Go.Proofs.YtcdmaapjcckbmaaDoor
open Go.RowKit Go.Shelf

/-- What read comes to. -/
def ReP (s : ByteArray) (w : World) (e : Ending) (w' : World) : Prop :=
  (match rdT s with
  | some l => ∃ v, e = .returned (.tuple #[v, .int .i64 0]) ∧ Ow w' w.heap.size v l
  | none => e = .returned (.tuple #[.slice none 0 0, .int .i64 200])) ∧ Below w.heap.size w w'
theorem infoRd : (Tryd.prog.info? 105).map (·.size) = some 258 := by kernel_rfl
theorem zero_reader : (Tryd.zeroCells105).size = 258 := by kernel_rfl
theorem krC_one (y z : Option Addr) (n c m d : Nat) : (krC (.slice y n c) (.slice z m d)).all (·.oneCell') = true := by
  unfold krC
  refine all_oneCell_toArray fun v hv => ?_
  rcases List.mem_cons.1 hv with rfl | hv
  · rfl
  · rcases List.mem_append.1 hv with hv | hv
    · obtain ⟨j, _, rfl⟩ := List.mem_map.1 hv
      rfl
    · obtain rfl := List.mem_singleton.1 hv
      rfl
theorem pcs_str (s : ByteArray) (j : Nat) (x : ByteArray) (h : (pcs 32 s)[j]? = some x) : ((pcs 32 s).map Value.string).toArray[j]? = some (.string x) := by
  rw [List.getElem?_toArray, List.getElem?_map, h]
  rfl
set_option maxRecDepth 100000 in
set_option maxHeartbeats 4000000 in
theorem cread_any (s : ByteArray) (hs : s.size ≤ 65536) (w : World) : Calls Tryd.prog 51 #[.string s] w fun e w' => ReP s w e w' := by
  have hmf : ∀ (fn : Fn) (first cap : Array Value) (w : World), (Instr.makeFunc fn first cap).run Tryd.prog w = .ok (.func fn first cap) w := fun _ _ _ _ => rfl
  have HSP := Lib.hid (fun w => split_any s 32 (by omega) w)
  have hM := wsM_pcs 32 s.size s (Nat.le_refl _)
  have hT : rdT s = rdW (pcs 32 s).length (pcs 32 s) := rfl
  have hC := fun j x h => pcs_str s j x h
  have hN : (pcs 32 s).length ≤ wsM (pcs 32 s) := by
    generalize pcs 32 s = ws
    induction ws with
    | nil => simp [wsM]
    | cons x r ih => rw [wsM_cons]; simp; omega
  generalize pcs 32 s = W0 at *
  have HT := Lib.hid (And.intro hM (And.intro hT (And.intro hC (And.intro hN hs))))
  clear hM hT hC hN hs
  go_enter_defers Tryd.func51, Tryd.ntmps51
  go_upto_region 2 with fail
  have hBX := balloc (balloc (Below.refl w.heap.size w) (.cells #[.slice none 0 0] 32)) (.cells #[.int .i64 0] 47)
  have hb0 := (Blk.new w 32 #[.slice none 0 0]).alloc (.cells #[.int .i64 0] 47)
  have hb1 := Blk.new (w.alloc (.cells #[.slice none 0 0] 32)) 47 #[.int .i64 0]
  have hXs : ((w.alloc (.cells #[.slice none 0 0] 32)).alloc (.cells #[.int .i64 0] 47)).heap.size = w.heap.size + 2 := by simp
  rw [World.size_alloc] at hb1
  generalize ((w.alloc (.cells #[.slice none 0 0] 32)).alloc (.cells #[.int .i64 0] 47)) = X at *
  refine wp_region_lit ?_
  refine wpList_plain rfl fun K hK => ?_
  go_simp
  refine hK _ _ ?_
  clear hK K
  refine wpList_plain rfl fun K hK => ?_
  go_simp
  refine (HSP.out _).mono ?_
  rintro e w1 ⟨rfl, rfl⟩
  refine hK _ _ ?_
  clear hK K
  refine wpList_plain rfl fun K hK => ?_
  go_simp
  refine (names_any _).mono ?_
  rintro e w1 ⟨rfl, hw⟩
  refine hK _ _ ?_
  clear hK K
  have hbw := (Blk.new X 9 (W0.map Value.string).toArray).keep hw
  have hBw := bstep (balloc hBX (.cells (W0.map Value.string).toArray 9)) hw
  have hb0w := (hb0.alloc (.cells (W0.map Value.string).toArray 9)).keep hw
  have hb1w := (hb1.alloc (.cells (W0.map Value.string).toArray 9)).keep hw
  rw [hXs] at hbw
  have hRw : w.heap.size + 2 < w1.heap.size := hbw.lt
  clear hw hb0 hb1 hBX hXs
  have hbld := fun Z => build_reader (some ⟨w.heap.size + 2, 0, none⟩) W0.length W0.length Z
  have HKo := Lib.hid (krC_one (some ⟨w.heap.size + 2, 0, none⟩) none W0.length W0.length 0 0)
  have hWd : WdS w1 (w.heap.size + 2) (.slice (some ⟨w.heap.size + 2, 0, none⟩) W0.length W0.length) W0 := ⟨_, _, rfl, Nat.le_refl _, fun _ => ⟨0, rfl, fun j x hj => by rw [cell_of_row _ _ (0 + j) _ _ _ hbw, Nat.zero_add]; exact HT.out.2.2.1 j x hj⟩⟩
  refine wpList_plain rfl fun K hK => ?_
  refine wp_build_run 105 _ rfl #[(0, .slice (some ⟨w.heap.size + 2, 0, none⟩) W0.length W0.length), (1, .agg (nmV 256))] (by simp only [List.map_toArray, List.map_cons, List.map_nil]; rfl) (hbld _) ?_
  refine hK _ _ ?_
  clear hK K
  refine wpList_plain rfl fun K hK => ?_
  go_simp
  refine hK _ _ ?_
  clear hK K
  refine wpList_store_row rfl 105 (.tmp 4) (.tmp 9) rfl w1.heap.size _ rfl rfl 105 (Tryd.zeroCells105) (Blk.new w1 _ _) (by rw [infoRd, krC_size]) (by rw [zero_reader, krC_size]) HKo.out (wpList_nil ?_)
  rw [World.setRow_alloc_new]
  have hRb := Blk.new w1 105 (krC (.slice (some ⟨w.heap.size + 2, 0, none⟩) W0.length W0.length) (.slice none 0 0))
  have hal := balloc (Below.refl w1.heap.size w1) (.cells (krC (.slice (some ⟨w.heap.size + 2, 0, none⟩) W0.length W0.length) (.slice none 0 0)) 105)
  have hY0 := hb0w.keep hal
  have hY1 := hb1w.keep hal
  have hYw := bstep hBw hal
  have hYd := hWd.kept (hal.block _ hRw)
  generalize w1.alloc (.cells (krC (.slice (some ⟨w.heap.size + 2, 0, none⟩) W0.length W0.length) (.slice none 0 0)) 105) = Y at *
  have HY := Lib.hid (show RdS Y w1.heap.size (w.heap.size + 2) _ W0 _ [] ∧ _ from ⟨⟨hRb, hYd, Ow.nil _ _, hRw⟩, And.intro hY0 (And.intro hY1 hYw)⟩)
  clear hbw hBw hb0w hb1w hbld HKo hWd hRb hal hY0 hY1 hYw hYd HSP hmf
  generalize w1.heap.size = R at *
  go_wp2_with fail
  simp only [Act.put]
  go_loopg [] W0.length (fun g wr => ∃ v cv ws l, RdS wr R (w.heap.size + 2) v ws cv l ∧ ws.length ≤ g ∧ rdT s = (rdW g ws).map (l ++ ·) ∧ l.length + wsM ws ≤ s.size + 1 ∧ Blk wr w.heap.size 32 #[.slice none 0 0] ∧ Blk wr (w.heap.size + 1) 47 #[.int .i64 0] ∧ Below w.heap.size w wr)
  case atStart => exact ⟨_, _, W0, [], HY.out.1, Nat.le_refl _, (by rw [HT.out.2.1]; cases rdW W0.length W0 <;> simp), (by have := HT.out.1; simpa using this), HY.out.2.1, HY.out.2.2.1, HY.out.2.2.2⟩
  case round =>
    obtain ⟨v, cv, ws, l, hR, hg, hrd, hln, h0, h1, hW⟩ := hrel
    clear HY
    obtain ⟨z, d, rfl⟩ := hR.2.2.1.is
    have cC := (cell_of_row _ _ 257 _ _ _ hR.1).trans (krC_code _ _)
    have c0 := (cell_of_row _ _ 0 _ _ _ hR.1).trans (krC_words _ _)
    obtain ⟨y, c, hv, hc, hw⟩ := hR.2.1
    cases ws with
    | nil =>
      rw [hv] at c0
      simp only [List.length_nil] at c0
      have k0 : wr.cell? ⟨w.heap.size, 0, none⟩ = some (.slice none 0 0) := cell_of_row _ _ 0 _ _ _ h0
      have f0 := frozen_of_row _ _ 0 _ _ h0
      have k1 : wr.cell? ⟨w.heap.size + 1, 0, none⟩ = some (.int .i64 0) := cell_of_row _ _ 0 _ _ _ h1
      have f1 := frozen_of_row _ _ 0 _ _ h1
      have HX := Lib.hid (And.intro hR (And.intro hrd (And.intro hW (And.intro h0 h1))))
      clear hR hrd hW hln hg hc hw hv h0 h1
      go_wp2_with fail
      have hO := HX.out.1.2.2.1
      have hg1 := grown_set' (grown_refl wr w.heap.size) 0 (Value.slice z l.length d)
      have hg2 := grown_set' (grown_refl (wr.setCell ⟨w.heap.size, 0, none⟩ (Value.slice z l.length d)) (w.heap.size + 1)) 0 (Value.int .i64 0)
      have hO2 := (hO.kept hg1 (by intro r e; injection e; omega)).kept hg2 (by intro r e; injection e; omega)
      have hB2 := (HX.out.2.2.1.setCell (p := ⟨w.heap.size, 0, none⟩) (Nat.le_refl _) (Value.slice z l.length d)).setCell (p := ⟨w.heap.size + 1, 0, none⟩) (by show w.heap.size ≤ w.heap.size + 1; omega) (Value.int .i64 0)
      have HE := Lib.hid (And.intro (hO2.mono (show w.heap.size ≤ R + 1 by omega)) hB2)
      clear hO hg1 hg2 hO2 hB2
      refine leaves_cons (f := 70) (args := #[.pointer (some ⟨w.heap.size, 0, none⟩), .pointer (some ⟨w.heap.size + 1, 0, none⟩)]) (by simp) (by simp [go_sem]) ?_
      refine (catch_idle ⟨w.heap.size, 0, none⟩ ⟨w.heap.size + 1, 0, none⟩ _).mono ?_
      rintro e u' w'' ⟨rfl, rfl, rfl⟩
      refine ⟨.tuple #[.slice z l.length d, .int .i64 0], ?_, ?_⟩
      · simp [results, Tryd.results51, go_sem, k0, k1]
      · unfold ReP
        rw [HX.out.2.1]
        have e : (rdW gk []) = some [] := by cases gk <;> rfl
        rw [e]
        simp only [Option.map_some, List.append_nil]
        exact ⟨⟨_, rfl, HE.out.1⟩, HE.out.2⟩
    | cons x r =>
      rw [hv] at c0
      have hlt : (0 : Int) < ((x :: r).length : Int) := by simp
      have hwl : r.length ≤ wsM r := by
        clear hR hg hrd hln h0 h1 hW c0 hv hc hw hlt
        induction r with
        | nil => simp [wsM]
        | cons x r ih => rw [wsM_cons]; simp; omega
      have hrl : r.length ≤ 900000 ∧ l.length ≤ 900000 := by
        rw [wsM_cons] at hln
        have := HT.out.2.2.2.2
        constructor <;> omega
      have HO := Lib.hid (op_any R (w.heap.size + 2) v _ x r l wr hR hrl.1 hrl.2)
      generalize (x :: r).length = n at c0 hlt
      cases hp : prOp (x :: r) with
      | none =>
        rw [hp] at HO
        have HX := Lib.hid (And.intro hrd (And.intro hW (And.intro h0 h1)))
        clear hR hrd hW hln hg hc hw hv h0 h1 hwl hrl
        go_wp2_with (first
          | (go_at_call 72; refine (HO.out).mono ?_; rintro e w2 ⟨rfl, hB2⟩)
          | fail)
        have h0 : Blk w2 w.heap.size 32 #[.slice none 0 0] := (hB2.block w.heap.size (by omega)).trans HX.out.2.2.1
        have h1 : Blk w2 (w.heap.size + 1) 47 #[.int .i64 0] := (hB2.block (w.heap.size + 1) (by omega)).trans HX.out.2.2.2
        have k0 : w2.cell? ⟨w.heap.size, 0, none⟩ = some (.slice none 0 0) := cell_of_row _ _ 0 _ _ _ h0
        have f0 := frozen_of_row _ _ 0 _ _ h0
        have k1 : w2.cell? ⟨w.heap.size + 1, 0, none⟩ = some (.int .i64 0) := cell_of_row _ _ 0 _ _ _ h1
        have f1 := frozen_of_row _ _ 0 _ _ h1
        have hW2 := HX.out.2.1.trans (hB2.mono (show w.heap.size ≤ R by omega))
        have HE := Lib.hid ((hW2.setCell (p := ⟨w.heap.size, 0, none⟩) (Nat.le_refl _) (Value.slice none 0 0)).setCell (p := ⟨w.heap.size + 1, 0, none⟩) (by show w.heap.size ≤ w.heap.size + 1; omega) (Value.int .i64 200))
        clear hW2 h0 h1 hB2
        refine leaves_cons (f := 70) (args := #[.pointer (some ⟨w.heap.size, 0, none⟩), .pointer (some ⟨w.heap.size + 1, 0, none⟩)]) (by simp) (by simp [go_sem]) ?_
        refine (catch_errno w.heap.size (.slice none 0 0) 0 200 [] _ k0 f0 k1 f1).mono ?_
        rintro e u' w'' ⟨rfl, rfl, rfl⟩
        refine ⟨.tuple #[.slice none 0 0, .int .i64 200], ?_, ?_⟩
        · simp [results, Tryd.results51, go_sem, k0, k1]
        · unfold ReP
          rw [HX.out.1, rdW_none hp]
          exact ⟨rfl, HE.out⟩
      | some q =>
        obtain ⟨b, t⟩ := q
        rw [hp] at HO
        have HX := Lib.hid (And.intro hrd (And.intro hW (And.intro h0 (And.intro h1 (And.intro hln hg)))))
        clear hR hrd hW hln hg hc hw hv h0 h1 hwl hrl
        go_wp2_with (first
          | (go_at_call 72; refine (HO.out).mono ?_; rintro e w2 ⟨rfl, v2, cv2, hR2, hB2⟩)
          | fail)
        have h0 : Blk w2 w.heap.size 32 #[.slice none 0 0] := (hB2.block w.heap.size (by omega)).trans HX.out.2.2.1
        have h1 : Blk w2 (w.heap.size + 1) 47 #[.int .i64 0] := (hB2.block (w.heap.size + 1) (by omega)).trans HX.out.2.2.2.1
        have hW2 := HX.out.2.1.trans (hB2.mono (show w.heap.size ≤ R by omega))
        have hL := prOp_len hp
        have hn1 : r.length + 1 ≤ gk := by have := HX.out.2.2.2.2.2; simpa using this
        obtain ⟨g, rfl⟩ : ∃ g, gk = g + 1 := ⟨gk - 1, by omega⟩
        have hrd2 : rdT s = (rdW g t).map ((l ++ b) ++ ·) := by
          rw [HX.out.1, rdW_some hp]
          cases rdW g t <;> simp
        have hl2 := HX.out.2.2.2.2.1
        have HE := Lib.hid (And.intro hR2 (And.intro (show t.length ≤ g by have := hL.2; simp at this; omega) (And.intro hrd2 (And.intro (show (l ++ b).length + wsM t ≤ s.size + 1 by rw [List.length_append]; omega) (And.intro h0 (And.intro h1 hW2))))))
        clear hR2 hB2 h0 h1 hW2 hL hn1 hrd2 hl2
        go_roundg g
        case measure => omega
        case rel => exact ⟨_, _, _, _, HE.out⟩
end Go.Proofs.YtcdmaapjcckbmaaDoor

/- code: Parse, any text. -/
namespace Go.Proofs.YtcdmaapjcckbmaaDoor
open Go.RowKit Go.Shelf

/-- The code that a text tells, and the number of the fault. -/
def paT (s : ByteArray) : List Nat × Nat := if 65536 < s.size then ([], 3) else if s.size = 0 then ([], 0) else match rdT s with
  | some l => (l, 0)
  | none => ([], 200)
set_option maxRecDepth 100000 in
set_option maxHeartbeats 2000000 in
theorem cparse_any (s : ByteArray) (w : World) : Calls Tryd.prog 24 #[.string s] w fun e w' => (∃ v, e = .returned (.tuple #[v, .int .i64 ((paT s).2 : Nat)]) ∧ Ow w' w.heap.size v (paT s).1) ∧ Below w.heap.size w w' := by
  by_cases h1 : 65536 < s.size
  · rw [show paT s = ([], 3) by unfold paT; rw [if_pos h1]]
    have hi : (65536 : Int) < (s.size : Int) := by omega
    clear h1
    go_enter Tryd.func24, Tryd.ntmps24
    go_wp2_with fail
    go_ret2
    exact ⟨⟨_, rfl, Ow.nil _ _⟩, Below.refl _ _⟩
  · have hi : ¬ (65536 : Int) < (s.size : Int) := by omega
    by_cases h2 : s.size = 0
    · obtain rfl : s = ⟨#[]⟩ := by
        rcases s with ⟨⟨_ | ⟨a, l⟩⟩⟩
        · rfl
        · simp [ByteArray.size] at h2
      rw [show paT ⟨#[]⟩ = ([], 0) by unfold paT; rw [if_neg h1, if_pos h2]]
      clear h1 h2 hi
      go_enter Tryd.func24, Tryd.ntmps24
      go_wp2_with fail
      go_ret2
      exact ⟨⟨_, rfl, Ow.nil _ _⟩, Below.refl _ _⟩
    · have he : s.toList.isEmpty = false := by
        rcases s with ⟨⟨_ | ⟨a, l⟩⟩⟩
        · exact absurd rfl h2
        · simp
      have HR := Lib.hid (cread_any s (by omega) w)
      have HP : ∀ e w', ReP s w e w' → (∃ v, e = .returned (.tuple #[v, .int .i64 ((paT s).2 : Nat)]) ∧ Ow w' w.heap.size v (paT s).1) ∧ Below w.heap.size w w' := by
        intro e w' h
        unfold ReP at h
        have hp : paT s = match rdT s with
          | some l => (l, 0)
          | none => ([], 200) := by unfold paT; rw [if_neg h1, if_neg h2]
        cases hr : rdT s with
        | some l =>
          rw [hr] at h hp
          simp only at h hp
          rw [hp]
          exact h
        | none =>
          rw [hr] at h hp
          simp only at h hp
          rw [hp]
          exact ⟨⟨_, h.1, Ow.nil _ _⟩, h.2⟩
      have HP := Lib.hid HP
      clear h1 h2
      generalize paT s = p at *
      go_enter Tryd.func24, Tryd.ntmps24
      go_wp2_with (first
        | (go_at_call 51; refine (HR.out).mono ?_; rintro e w2 h2; obtain ⟨⟨v, rfl, hO⟩, hB⟩ := HP.out e w2 h2; clear h2)
        | fail)
      trace_state
      go_ret2
      exact ⟨⟨_, rfl, hO⟩, hB⟩
end Go.Proofs.YtcdmaapjcckbmaaDoor

/- code's laws: works: its literals. -/
namespace Go.Proofs.YtcdmaapjcckbmaaDoor
open Go.RowKit Go.Shelf

abbrev wL : List Nat := [96, 5, 91, 97, 91]
theorem oi_1 : oi 1 = ⟨[65, 68, 68], 2, 1, 3, true, 0⟩ ∧ isO 1 = true := by decide +kernel
theorem oi_12 : oi 12 = noOp ∧ isO 12 = false := by decide +kernel
theorem oi_145 : oi 145 = ⟨[83, 87, 65, 80, 50], 3, 3, 3, true, 0⟩ ∧ isO 145 = true := by decide +kernel
theorem nk_push2 : nk ⟨#[80, 85, 83, 72, 50]⟩ = 97 ∧ nb ⟨#[80, 85, 83, 72, 50]⟩ = true := by decide +kernel
theorem mk_wl : mkL wL = [2] := by decide +kernel
theorem pw_wl : pwN wL 3 = 23296 ∧ pwS wL 3 = true := by decide +kernel
theorem tx_wl : txL10 wL = [80, 85, 83, 72, 49, 32, 48, 120, 48, 53, 32, 74, 85, 77, 80, 68, 69, 83, 84, 32, 80, 85, 83, 72, 50, 32, 48, 120, 53, 98, 48, 48] := by decide +kernel
theorem pa_1 : paT ⟨#[80, 85, 83, 72, 49, 32, 48, 120, 48, 53, 32, 74, 85, 77, 80, 68, 69, 83, 84]⟩ = ([96, 5, 91], 0) := by decide +kernel
theorem pa_2 : paT ⟨#[80, 85, 83, 72, 49, 32, 48, 53]⟩ = ([], 200) := by decide +kernel
set_option maxRecDepth 100000 in
theorem num_any10 (k : Int) (w : World) : Calls Tryd.prog 27 #[.int .i64 k] w fun e w' => e = .returned (.int .i64 k) ∧ w = w' := by
  go_enter Tryd.func27, Tryd.ntmps27
  go_wp2_with fail
  go_ret
  exact ⟨rfl, rfl⟩
end Go.Proofs.YtcdmaapjcckbmaaDoor

/- code's laws: names of ops. -/
namespace Go.Proofs.YtcdmaapjcckbmaaDoor
open Go.RowKit Go.Shelf

def nmS (n : Nat) : ByteArray := ⟨(oi n).nm.toArray⟩
set_option maxRecDepth 100000 in
theorem nm_all : ∀ n : Fin 256, nb (nmS n.val) = isO n.val ∧ (isO n.val = true → nk (nmS n.val) = n.val) := by decide +kernel
end Go.Proofs.YtcdmaapjcckbmaaDoor

