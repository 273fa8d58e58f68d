/- item: the reader's cut. -/
import Derived.Test.YtjmfnafbjfceoaaDoorQd
import Derived.Deep.RegionWith
namespace Go.Proofs.YtjmfnafbjfceoaaDoor
open Go.RowKit Go.Shelf
attribute [local irreducible] lb wdG byA byC heL nuL
/-- What cut takes away: the kind, the bytes behind the head, what is left. -/
def cutS : List Nat → Option (Nat × List Nat × List Nat)
  | [] => none
  | f :: r => if f < 128 then some (0, [f], r) else match leS (f - hdN (kdN f)) r with
    | none => none
    | some (n, r2) => if r2.length < n then none else some (kdN f, r2.take n, r2.drop n)
def CuP (B R : Nat) (d : Int) (M : Nat) (w : World) (o : Option (Nat × List Nat × List Nat)) (e : Ending) (w' : World) : Prop := w.grownBy w' (some R) ∧ (match o with
  | some (k, body, r2) => ∃ x m c, e = .returned (.agg #[.int .i64 k, .slice x m c]) ∧ Bt B w' (.slice x m c) body ∧ ∃ v2, RB w' R v2 d M ∧ Bt B w' v2 r2
  | none => e = .panicked [{ v := .iface 28 (.int .i64 160), recovered := false }])
theorem grown_above {w X Y : World} {R g : Nat} (h : w.grownBy X (some R)) (k : X.grownBy Y (some g)) (hg : w.heap.size ≤ g) : w.grownBy Y (some R) :=
  ⟨k.os.trans h.os, k.tape.trans h.tape, k.output.trans h.output, Nat.le_trans h.size k.size, fun i hi hne => (k.block i (Nat.lt_of_lt_of_le hi h.size) (fun e => by injection e; omega)).trans (h.block i hi hne)⟩
theorem cutS_cons (f : Nat) (r : List Nat) : cutS (f :: r) = if f < 128 then some (0, [f], r) else match leS (f - hdN (kdN f)) r with
    | none => none
    | some (n, r2) => if r2.length < n then none else some (kdN f, r2.take n, r2.drop n) := rfl
theorem HD.far {w X : World} {R : Nat} (h : HD w) (hR : 0 ≠ R) (hg : w.grownBy X (some R)) : HD X := fun j hj => (World.cell?_of_block (hg.block 0 h.lt (fun e => by injection e with e; exact hR e))).trans (h j hj)

set_option maxRecDepth 100000 in
set_option maxHeartbeats 4000000 in
theorem cut_any (B R : Nat) (v : Value) (l : List Nat) (d : Int) (M : Nat) (w : World) (hR : RB w R v d M) (hv : Bt B w v l) (hB : B ≤ R) (hH : HD w) (hgR : 0 < R) :
    Calls Tryd.prog 37 #[.pointer (some ⟨R, 0, none⟩)] w fun e w' => CuP B R d M w (cutS l) e w' := by
  have hW := balloc (Below.refl w.heap.size w) (.cells #[.int .i64 0, .slice none 0 0] 73)
  have hR1 := hR.keep hW
  have hv1 := hv.new hW
  have hP := Blk.new w 73 #[.int .i64 0, .slice none 0 0]
  have hRl := hR.lt
  obtain ⟨w1, hw1⟩ : ∃ w1, w.alloc (.cells #[.int .i64 0, .slice none 0 0] 73) = w1 := ⟨_, rfl⟩
  rw [hw1] at hW hR1 hv1 hP
  cases l with
  | nil =>
    have hT := Lib.hid (take_not R B v [] 1 d M w1 hR1 hv1 (by simp))
    have HW := Lib.hid hW
    clear hW hR1 hv1 hP hR hv hH
    go_enter Tryd.func37, Tryd.ntmps37
    go_wp2_with fail
    refine hT.out.mono ?_
    rintro e w2 ⟨rfl, rfl⟩
    exact ⟨rfl, grown_of R HW.out, rfl⟩
  | cons f r =>
    have hT := Lib.hid (take_bt B R v (f :: r) 1 d M w1 hR1 hv1 hB (by simp))
    have HW := Lib.hid (And.intro hW (And.intro hP (hH.keep hW)))
    clear hW hR1 hv1 hP hR hv hH
    go_enter Tryd.func37, Tryd.ntmps37
    go_wp2_with fail
    refine hT.out.mono ?_
    rintro e w2 ⟨x, c, v2, rfl, hb, hR2, hv2, hg2⟩
    have hb1 : Bt B w2 (.slice x 1 c) [f] := hb
    have hv3 : Bt B w2 v2 r := hv2
    have hH2 := HW.out.2.2.far (by omega) hg2
    have hP2 := HW.out.2.1.kept hg2 (fun e => by injection e; omega)
    have hgw := grown_then' (grown_of R HW.out.1) hg2
    have hf : f < 256 := hb1.1 f (by simp)
    obtain ⟨b, o, rfl, hcf⟩ : ∃ b o, x = some ⟨b, o, none⟩ ∧ w2.cell? ⟨b, o, none⟩ = some (.int .u8 (f : Nat)) := by
      obtain ⟨_, x', c', he, _, _, h5⟩ := hb1
      injection he with e1 e2 e3
      rcases h5 with ⟨_, h, _⟩ | ⟨b, o, h, _, hc⟩
      · cases h
      · exact ⟨b, o, e1.trans h, by have := hc 0 f rfl; simpa using this⟩
    have hK := Lib.hid (kindUnder_any f hf w2 hH2)
    have H2 := Lib.hid (And.intro hb1 (And.intro hR2 (And.intro hv3 (And.intro hH2 (And.intro hP2 hgw)))))
    clear hT HW hb hv2 hb1 hR2 hv3 hH2 hP2 hgw hg2 hw1
    go_wp2_with fail
    refine hK.out.mono ?_
    rintro e w3 ⟨rfl, rfl⟩
    clear hK
    by_cases h128 : f < 128
    · have hkd : kdN f = 0 := by unfold kdN; rw [if_pos h128]
      rw [hkd]
      have hcs : cutS (f :: r) = some (0, [f], r) := by rw [cutS_cons, if_pos h128]
      have HC := Lib.hid hcs
      have p0 := cell_of_row _ _ 0 _ _ _ H2.out.2.2.2.2.1
      have p1 := cell_of_row _ _ 1 _ _ _ H2.out.2.2.2.2.1
      have f0 := frozen_of_row _ _ 0 _ _ H2.out.2.2.2.2.1
      have f1 := frozen_of_row _ _ 1 _ _ H2.out.2.2.2.2.1
      clear hkd h128 hcs hcf
      have hG := grown_set' (grown_set' (grown_refl w2 w.heap.size) 0 (.int .i64 0)) 1 (.slice (some ⟨b, o, none⟩) 1 c)
      have hBP : B ≤ w.heap.size := by omega
      have HF := Lib.hid (show Bt B _ (.slice (some ⟨b, o, none⟩) 1 c) [f] ∧ RB _ R v2 d M ∧ Bt B _ v2 r ∧ w.grownBy _ (some R) from ⟨H2.out.1.far hG hBP, H2.out.2.1.kept hG (fun e => by injection e; omega), H2.out.2.2.1.far hG hBP, grown_above H2.out.2.2.2.2.2 hG (Nat.le_refl _)⟩)
      clear H2 hG
      go_wp2_with fail
      exact bodyPost_ret (v := .agg #[.int .i64 0, .slice (some ⟨b, o, none⟩) 1 c]) (by simp [results, Tryd.results37, go_sem, p0, p1]) rfl ⟨HF.out.2.2.2, by rw [HC.out]; exact ⟨_, _, _, rfl, HF.out.1, v2, HF.out.2.1, HF.out.2.2.1⟩⟩
    · have hk3 : kdN f = 1 ∨ kdN f = 2 := by unfold kdN; rw [if_neg h128]; split <;> simp
      have hhd : hdN (kdN f) ≤ f ∧ f - hdN (kdN f) ≤ 63 := by
        unfold kdN hdN; rw [if_neg h128]
        by_cases h192 : f < 192
        · rw [if_pos h192]; simp; omega
        · rw [if_neg h192]; simp; omega
      have cH := H2.out.2.2.2.1 (kdN f) (by omega)
      have hcs : cutS (f :: r) = match leS (f - hdN (kdN f)) r with
        | none => none
        | some (n, r2) => if r2.length < n then none else some (kdN f, r2.take n, r2.drop n) := by rw [cutS_cons, if_neg h128]
      have HC := Lib.hid hcs
      obtain ⟨k, hk⟩ : ∃ k, kdN f = k := ⟨_, rfl⟩
      rw [hk] at hk3 hhd cH HC ⊢
      have hkI : ((k : Int) == 0) = false := by simp; omega
      have hk0 : 0 ≤ (k : Int) := by omega
      have hk4 : (k : Int) < 3 := by omega
      obtain ⟨h, hh⟩ : ∃ h, hdN k = h := ⟨_, rfl⟩
      rw [hh] at hhd cH HC
      have w5 : IntKind.u8.wrap ((f : Int) - (h : Int)) = ((f - h : Nat) : Int) := by rw [IntKind.wrap_u8]; omega
      obtain ⟨s, hs⟩ : ∃ s, f - h = s := ⟨_, rfl⟩
      rw [hs] at hhd HC w5
      clear hcs hk hh hs h128
      go_wp2_with fail
      have hd0 : w2.grownBy w2.drew (some R) := grown_drew (grown_refl w2 R)
      obtain ⟨hb1, hR2, hv3, hH2, hP2, hgw⟩ := H2.out
      have hgd := grown_then' hgw hd0
      have hRd := hR2.kept (row := none) (grown_drew ⟨rfl, rfl, rfl, Nat.le_refl _, fun _ _ _ => rfl⟩) (by simp)
      have hvd := hv3.far hd0 hB
      have hPd := hP2.drew'
      have hcd : w2.drew.cell? ⟨b, o, none⟩ = some (.int .u8 (f : Nat)) := hcf
      have hcH : w2.drew.cell? ⟨0, k, none⟩ = some (.int .u8 (h : Nat)) := cH
      have hL := length_any B R s v2 r d M w2.drew hhd.2 hRd hvd hB
      clear hb1 hR2 hv3 hH2 hP2 hgw H2 hcf cH hd0
      cases hle : leS s r with
      | none =>
        rw [hle] at hL
        have hL2 := Lib.hid (hL.mono (R' := fun e w' => e = .panicked [{ v := .iface 28 (.int .i64 160), recovered := false }] ∧ w2.drew.grownBy w' (some R)) (fun e w' h => ⟨h.2, h.1⟩))
        have hcs : cutS (f :: r) = none := by rw [HC.out, hle]
        have HF := Lib.hid (And.intro hcs hgd)
        clear hL hle hcs hgd hRd hvd hPd HC
        refine (wpIn_wide (n := 20)).1 (wpIn_region_any (by kernel_rfl) ?_)
        refine wpAnyIn_take (i := 0) (v := ?vq0a) rfl rfl (by kernel_rfl) (by kernel_rfl) (by kernel_rfl) (fun _ _ _ h => h) ⟨Or.inl ⟨by rfl, ?yq0a⟩, fun _ => rfl⟩ ?rq0a
        case yq0a => (intro w; go_simp <;> with_reducible rfl)
        refine wpAnyIn_take (i := 1) (v := ?vq1a) rfl rfl (by kernel_rfl) (by kernel_rfl) (by kernel_rfl) (fun _ _ _ h => h) ⟨Or.inl ⟨by rfl, ?yq1a⟩, fun _ => rfl⟩ ?rq1a
        case yq1a => (intro w; go_simp <;> with_reducible rfl)
        refine wpAnyIn_take (i := 2) (v := ?vq2a) rfl rfl (by kernel_rfl) (by kernel_rfl) (by kernel_rfl) (fun _ _ _ h => h) ⟨Or.inl ⟨by rfl, ?yq2a⟩, fun _ => rfl⟩ ?rq2a
        case yq2a => (intro w; go_simp <;> with_reducible rfl)
        refine wpAnyIn_take (i := 3) (v := ?vq3a) rfl rfl (by kernel_rfl) (by kernel_rfl) (by kernel_rfl) (fun _ _ _ h => h) ⟨Or.inl ⟨by rfl, ?yq3a⟩, fun _ => rfl⟩ ?rq3a
        case yq3a => (intro w; go_simp <;> with_reducible rfl)
        refine wpAnyIn_take (i := 4) (v := ?vq4a) rfl rfl (by kernel_rfl) (by kernel_rfl) (by kernel_rfl) (fun _ _ _ h => h) ⟨Or.inl ⟨by rfl, ?yq4a⟩, fun _ => rfl⟩ ?rq4a
        case yq4a => (intro w; go_simp <;> with_reducible rfl)
        refine wpAnyIn_take (i := 6) (v := ?vq6a) rfl rfl (by kernel_rfl) (by kernel_rfl) (by kernel_rfl) (fun _ _ _ h => h) ⟨Or.inl ⟨by rfl, ?yq6a⟩, fun _ => rfl⟩ ?rq6a
        case yq6a => (intro w; go_simp <;> with_reducible rfl)
        refine wpAnyIn_take (i := 7) (v := ?vq7a) rfl rfl (by kernel_rfl) (by kernel_rfl) (by kernel_rfl) (fun _ _ _ h => h) ⟨Or.inl ⟨by rfl, ?yq7a⟩, fun _ => rfl⟩ ?rq7a
        case yq7a => (intro w; go_simp <;> with_reducible rfl)
        refine join_all (T := ?TKa) (fun key => ?mka) ?kka
        case mka =>
          refine wpAnyIn_ready (rs := [5, 8]) (by kernel_rfl) (by simp) ?_
          refine AllReadyIn.cons rfl (fun K hK => ?_) (AllReadyIn.cons rfl (fun K hK => ?_) AllReadyIn.nil)
          · go_simp
            refine hK _ _ ?_
            clear hK K
            refine wpAnyIn_ready (rs := [8]) (by kernel_rfl) (by simp) ?_
            refine AllReadyIn.cons rfl (fun K hK => ?_) AllReadyIn.nil
            go_simp
            refine hK _ _ ?_
            clear hK K
            exact key.out
          · go_simp
            refine hK _ _ ?_
            clear hK K
            refine wpAnyIn_ready (rs := [5]) (by kernel_rfl) (by simp) ?_
            refine AllReadyIn.cons rfl (fun K hK => ?_) AllReadyIn.nil
            go_simp
            refine hK _ _ ?_
            clear hK K
            exact key.out
        case kka =>
          refine wpAnyIn_take (i := 9) (v := ?vq9a) rfl rfl (by kernel_rfl) (by kernel_rfl) (by kernel_rfl) (fun _ _ _ h => h) ⟨Or.inl ⟨by rfl, ?yq9a⟩, fun _ => rfl⟩ ?rq9a
          case yq9a => (intro w; go_simp <;> with_reducible rfl)
          refine wpAnyIn_ready (rs := [10]) (by kernel_rfl) (by simp) ?_
          refine AllReadyIn.cons rfl (fun K hK => ?_) AllReadyIn.nil
          go_simp
          refine ⟨trivial, (callsIn_wide.2 hL2.out).mono ?_⟩
          rintro e w3 ⟨rfl, hg3⟩
          exact ⟨rfl, grown_then' HF.out.2 hg3, by rw [HF.out.1]⟩
      | some nr =>
        obtain ⟨n, r2⟩ := nr
        rw [hle] at hL
        have hL2 := Lib.hid (hL.mono (R' := fun e w' => e = .returned (.int .u64 (n : Nat)) ∧ (∃ v4, RB w' R v4 d M ∧ Bt B w' v4 r2) ∧ w2.drew.grownBy w' (some R)) (fun e w' h => ⟨h.2.1, h.2.2, h.1⟩))
        by_cases hn : r2.length < n
        · have hcs : cutS (f :: r) = none := by rw [HC.out, hle]; exact if_pos hn
          have HF := Lib.hid (And.intro hcs hgd)
          have HN := Lib.hid hn
          clear hL hle hcs hgd hRd hvd hPd HC hn
          refine (wpIn_wide (n := 20)).1 (wpIn_region_any (by kernel_rfl) ?_)
          refine wpAnyIn_take (i := 0) (v := ?vq0b) rfl rfl (by kernel_rfl) (by kernel_rfl) (by kernel_rfl) (fun _ _ _ h => h) ⟨Or.inl ⟨by rfl, ?yq0b⟩, fun _ => rfl⟩ ?rq0b
          case yq0b => (intro w; go_simp <;> with_reducible rfl)
          refine wpAnyIn_take (i := 1) (v := ?vq1b) rfl rfl (by kernel_rfl) (by kernel_rfl) (by kernel_rfl) (fun _ _ _ h => h) ⟨Or.inl ⟨by rfl, ?yq1b⟩, fun _ => rfl⟩ ?rq1b
          case yq1b => (intro w; go_simp <;> with_reducible rfl)
          refine wpAnyIn_take (i := 2) (v := ?vq2b) rfl rfl (by kernel_rfl) (by kernel_rfl) (by kernel_rfl) (fun _ _ _ h => h) ⟨Or.inl ⟨by rfl, ?yq2b⟩, fun _ => rfl⟩ ?rq2b
          case yq2b => (intro w; go_simp <;> with_reducible rfl)
          refine wpAnyIn_take (i := 3) (v := ?vq3b) rfl rfl (by kernel_rfl) (by kernel_rfl) (by kernel_rfl) (fun _ _ _ h => h) ⟨Or.inl ⟨by rfl, ?yq3b⟩, fun _ => rfl⟩ ?rq3b
          case yq3b => (intro w; go_simp <;> with_reducible rfl)
          refine wpAnyIn_take (i := 4) (v := ?vq4b) rfl rfl (by kernel_rfl) (by kernel_rfl) (by kernel_rfl) (fun _ _ _ h => h) ⟨Or.inl ⟨by rfl, ?yq4b⟩, fun _ => rfl⟩ ?rq4b
          case yq4b => (intro w; go_simp <;> with_reducible rfl)
          refine wpAnyIn_take (i := 6) (v := ?vq6b) rfl rfl (by kernel_rfl) (by kernel_rfl) (by kernel_rfl) (fun _ _ _ h => h) ⟨Or.inl ⟨by rfl, ?yq6b⟩, fun _ => rfl⟩ ?rq6b
          case yq6b => (intro w; go_simp <;> with_reducible rfl)
          refine wpAnyIn_take (i := 7) (v := ?vq7b) rfl rfl (by kernel_rfl) (by kernel_rfl) (by kernel_rfl) (fun _ _ _ h => h) ⟨Or.inl ⟨by rfl, ?yq7b⟩, fun _ => rfl⟩ ?rq7b
          case yq7b => (intro w; go_simp <;> with_reducible rfl)
          refine join_all (T := ?TKb) (fun key => ?mkb) ?kkb
          case mkb =>
            refine wpAnyIn_ready (rs := [5, 8]) (by kernel_rfl) (by simp) ?_
            refine AllReadyIn.cons rfl (fun K hK => ?_) (AllReadyIn.cons rfl (fun K hK => ?_) AllReadyIn.nil)
            · go_simp
              refine hK _ _ ?_
              clear hK K
              refine wpAnyIn_ready (rs := [8]) (by kernel_rfl) (by simp) ?_
              refine AllReadyIn.cons rfl (fun K hK => ?_) AllReadyIn.nil
              go_simp
              refine hK _ _ ?_
              clear hK K
              exact key.out
            · go_simp
              refine hK _ _ ?_
              clear hK K
              refine wpAnyIn_ready (rs := [5]) (by kernel_rfl) (by simp) ?_
              refine AllReadyIn.cons rfl (fun K hK => ?_) AllReadyIn.nil
              go_simp
              refine hK _ _ ?_
              clear hK K
              exact key.out
          case kkb =>
            refine wpAnyIn_take (i := 9) (v := ?vq9b) rfl rfl (by kernel_rfl) (by kernel_rfl) (by kernel_rfl) (fun _ _ _ h => h) ⟨Or.inl ⟨by rfl, ?yq9b⟩, fun _ => rfl⟩ ?rq9b
            case yq9b => (intro w; go_simp <;> with_reducible rfl)
            refine wpAnyIn_ready (rs := [10]) (by kernel_rfl) (by simp) ?_
            refine AllReadyIn.cons rfl (fun K hK => ?_) AllReadyIn.nil
            go_simp
            refine ⟨trivial, (callsIn_wide.2 hL2.out).mono ?_⟩
            rintro e w3 ⟨rfl, ⟨v4, hR4, hv4⟩, hg3⟩
            refine hK _ _ ?_
            clear hK K
            refine wpAnyIn_ready (rs := [11]) (by kernel_rfl) (by simp) ?_
            refine AllReadyIn.cons rfl (fun K hK => ?_) AllReadyIn.nil
            go_simp
            refine ⟨trivial, (callsIn_wide.2 (take_not R B _ r2 n d M _ hR4 hv4 HN.out)).mono ?_⟩
            rintro e w4 ⟨rfl, rfl⟩
            exact ⟨rfl, grown_then' HF.out.2 hg3, by rw [HF.out.1]⟩
        · have hcs : cutS (f :: r) = some (k, r2.take n, r2.drop n) := by rw [HC.out, hle]; exact if_neg hn
          have HF := Lib.hid (And.intro hcs (And.intro hgd hPd))
          have HN := Lib.hid (show n ≤ r2.length by omega)
          clear hL hle hcs hgd hRd hvd hPd HC hn
          refine (wpIn_wide (n := 20)).1 (wpIn_region_any (by kernel_rfl) ?_)
          refine wpAnyIn_take (i := 0) (v := ?vq0c) rfl rfl (by kernel_rfl) (by kernel_rfl) (by kernel_rfl) (fun _ _ _ h => h) ⟨Or.inl ⟨by rfl, ?yq0c⟩, fun _ => rfl⟩ ?rq0c
          case yq0c => (intro w; go_simp <;> with_reducible rfl)
          refine wpAnyIn_take (i := 1) (v := ?vq1c) rfl rfl (by kernel_rfl) (by kernel_rfl) (by kernel_rfl) (fun _ _ _ h => h) ⟨Or.inl ⟨by rfl, ?yq1c⟩, fun _ => rfl⟩ ?rq1c
          case yq1c => (intro w; go_simp <;> with_reducible rfl)
          refine wpAnyIn_take (i := 2) (v := ?vq2c) rfl rfl (by kernel_rfl) (by kernel_rfl) (by kernel_rfl) (fun _ _ _ h => h) ⟨Or.inl ⟨by rfl, ?yq2c⟩, fun _ => rfl⟩ ?rq2c
          case yq2c => (intro w; go_simp <;> with_reducible rfl)
          refine wpAnyIn_take (i := 3) (v := ?vq3c) rfl rfl (by kernel_rfl) (by kernel_rfl) (by kernel_rfl) (fun _ _ _ h => h) ⟨Or.inl ⟨by rfl, ?yq3c⟩, fun _ => rfl⟩ ?rq3c
          case yq3c => (intro w; go_simp <;> with_reducible rfl)
          refine wpAnyIn_take (i := 4) (v := ?vq4c) rfl rfl (by kernel_rfl) (by kernel_rfl) (by kernel_rfl) (fun _ _ _ h => h) ⟨Or.inl ⟨by rfl, ?yq4c⟩, fun _ => rfl⟩ ?rq4c
          case yq4c => (intro w; go_simp <;> with_reducible rfl)
          refine wpAnyIn_take (i := 6) (v := ?vq6c) rfl rfl (by kernel_rfl) (by kernel_rfl) (by kernel_rfl) (fun _ _ _ h => h) ⟨Or.inl ⟨by rfl, ?yq6c⟩, fun _ => rfl⟩ ?rq6c
          case yq6c => (intro w; go_simp <;> with_reducible rfl)
          refine wpAnyIn_take (i := 7) (v := ?vq7c) rfl rfl (by kernel_rfl) (by kernel_rfl) (by kernel_rfl) (fun _ _ _ h => h) ⟨Or.inl ⟨by rfl, ?yq7c⟩, fun _ => rfl⟩ ?rq7c
          case yq7c => (intro w; go_simp <;> with_reducible rfl)
          refine join_all (T := ?TKc) (fun key => ?mkc) ?kkc
          case mkc =>
            refine wpAnyIn_ready (rs := [5, 8]) (by kernel_rfl) (by simp) ?_
            refine AllReadyIn.cons rfl (fun K hK => ?_) (AllReadyIn.cons rfl (fun K hK => ?_) AllReadyIn.nil)
            · go_simp
              refine hK _ _ ?_
              clear hK K
              refine wpAnyIn_ready (rs := [8]) (by kernel_rfl) (by simp) ?_
              refine AllReadyIn.cons rfl (fun K hK => ?_) AllReadyIn.nil
              go_simp
              refine hK _ _ ?_
              clear hK K
              exact key.out
            · go_simp
              refine hK _ _ ?_
              clear hK K
              refine wpAnyIn_ready (rs := [5]) (by kernel_rfl) (by simp) ?_
              refine AllReadyIn.cons rfl (fun K hK => ?_) AllReadyIn.nil
              go_simp
              refine hK _ _ ?_
              clear hK K
              exact key.out
          case kkc =>
            refine wpAnyIn_take (i := 9) (v := ?vq9c) rfl rfl (by kernel_rfl) (by kernel_rfl) (by kernel_rfl) (fun _ _ _ h => h) ⟨Or.inl ⟨by rfl, ?yq9c⟩, fun _ => rfl⟩ ?rq9c
            case yq9c => (intro w; go_simp <;> with_reducible rfl)
            refine wpAnyIn_ready (rs := [10]) (by kernel_rfl) (by simp) ?_
            refine AllReadyIn.cons rfl (fun K hK => ?_) AllReadyIn.nil
            go_simp
            refine ⟨trivial, (callsIn_wide.2 hL2.out).mono ?_⟩
            rintro e w3 ⟨rfl, ⟨v4, hR4, hv4⟩, hg3⟩
            refine hK _ _ ?_
            clear hK K
            refine wpAnyIn_ready (rs := [11]) (by kernel_rfl) (by simp) ?_
            refine AllReadyIn.cons rfl (fun K hK => ?_) AllReadyIn.nil
            go_simp
            refine ⟨trivial, (callsIn_wide.2 (take_bt B R _ r2 n d M _ hR4 hv4 hB HN.out)).mono ?_⟩
            rintro e w4 ⟨x5, c5, v5, rfl, hb5, hR5, hv5, hg5⟩
            have hP5 := (HF.out.2.2.kept hg3 (fun e => by injection e; omega)).kept hg5 (fun e => by injection e; omega)
            have p0 := cell_of_row _ _ 0 _ _ _ hP5
            have p1 := cell_of_row _ _ 1 _ _ _ hP5
            have f0 := frozen_of_row _ _ 0 _ _ hP5
            have f1 := frozen_of_row _ _ 1 _ _ hP5
            have hgw := grown_then' (grown_then' HF.out.2.1 hg3) hg5
            have hG := grown_set' (grown_set' (grown_refl w4 w.heap.size) 0 (.int .i64 k)) 1 (.slice x5 n c5)
            have hBP : B ≤ w.heap.size := by omega
            have hln : (r2.take n).length = n := by rw [List.length_take]; have := HN.out; omega
            have HE := Lib.hid (show Bt B _ (.slice x5 n c5) (r2.take n) ∧ RB _ R v5 d M ∧ Bt B _ v5 (r2.drop n) ∧ w.grownBy _ (some R) from ⟨hb5.far hG hBP, hR5.kept hG (fun e => by injection e; omega), hv5.far hG hBP, grown_above hgw hG (Nat.le_refl _)⟩)
            clear hP5 hgw hb5 hR5 hv5 hg5 hG hg3 hR4 hv4
            refine hK _ _ ?_
            clear hK K
            refine wpAnyIn_take (i := 12) (v := ?vq12) rfl rfl (by kernel_rfl) (by kernel_rfl) (by kernel_rfl) (fun _ _ _ h => h) ⟨Or.inl ⟨by rfl, ?yq12⟩, fun _ => rfl⟩ ?rq12
            case yq12 => (intro w; go_simp <;> with_reducible rfl)
            refine wpAnyIn_ready (rs := [13]) (by kernel_rfl) (by simp) ?_
            refine AllReadyIn.cons rfl (fun K hK => ?_) AllReadyIn.nil
            go_simp
            refine hK _ _ ?_
            clear hK K
            refine wpAnyIn_done (by kernel_rfl) ?_ _
            simp only [Exit.then]
            go_wp2_with fail
            exact bodyPost_ret (v := .agg #[.int .i64 k, .slice x5 n c5]) (by simp [results, Tryd.results37, go_sem, p0, p1]) rfl ⟨HE.out.2.2.2, by rw [HF.out.1]; exact ⟨_, _, _, rfl, HE.out.1, v5, HE.out.2.1, HE.out.2.2.1⟩⟩
end Go.Proofs.YtjmfnafbjfceoaaDoor
