/- Texts laid into one: Qe. -/
import Derived.Test.YtjmfnafbjfceoaaDoorQd
import Derived.Deep.RegionWith
import Derived.RegionTactic
/- item: the reader's cut. -/
namespace Go.Proofs.YtjmfnafbjfceoaaDoor
open Go.RowKit Go.Shelf
attribute [local irreducible] lb wdG byA byC heL nuL
/-- What cut takes away: the kind, the bytes behind the head, what is left. -/
def cutS : List Nat → Option (Nat × List Nat × List Nat)
  | [] => none
  | f :: r => if f < 128 then some (0, [f], r) else match leS (f - hdN (kdN f)) r with
    | none => none
    | some (n, r2) => if r2.length < n then none else some (kdN f, r2.take n, r2.drop n)
def CuP (B R : Nat) (d : Int) (M : Nat) (w : World) (o : Option (Nat × List Nat × List Nat)) (e : Ending) (w' : World) : Prop := w.grownBy w' (some R) ∧ (match o with
  | some (k, body, r2) => ∃ x m c, e = .returned (.agg #[.int .i64 k, .slice x m c]) ∧ Bt B w' (.slice x m c) body ∧ ∃ v2, RB w' R v2 d M ∧ Bt B w' v2 r2
  | none => e = .panicked [{ v := .iface 28 (.int .i64 160), recovered := false }])
theorem grown_above {w X Y : World} {R g : Nat} (h : w.grownBy X (some R)) (k : X.grownBy Y (some g)) (hg : w.heap.size ≤ g) : w.grownBy Y (some R) :=
  ⟨k.os.trans h.os, k.tape.trans h.tape, k.output.trans h.output, Nat.le_trans h.size k.size, fun i hi hne => (k.block i (Nat.lt_of_lt_of_le hi h.size) (fun e => by injection e; omega)).trans (h.block i hi hne)⟩
theorem cutS_cons (f : Nat) (r : List Nat) : cutS (f :: r) = if f < 128 then some (0, [f], r) else match leS (f - hdN (kdN f)) r with
    | none => none
    | some (n, r2) => if r2.length < n then none else some (kdN f, r2.take n, r2.drop n) := rfl
theorem HD.far {w X : World} {R : Nat} (h : HD w) (hR : 0 ≠ R) (hg : w.grownBy X (some R)) : HD X := fun j hj => (World.cell?_of_block (hg.block 0 h.lt (fun e => by injection e with e; exact hR e))).trans (h j hj)

set_option maxRecDepth 100000 in
set_option maxHeartbeats 4000000 in
theorem cut_any (B R : Nat) (v : Value) (l : List Nat) (d : Int) (M : Nat) (w : World) (hR : RB w R v d M) (hv : Bt B w v l) (hB : B ≤ R) (hH : HD w) (hgR : 0 < R) :
    Calls Tryd.prog 37 #[.pointer (some ⟨R, 0, none⟩)] w fun e w' => CuP B R d M w (cutS l) e w' := by
  have hW := balloc (Below.refl w.heap.size w) (.cells #[.int .i64 0, .slice none 0 0] 73)
  have hR1 := hR.keep hW
  have hv1 := hv.new hW
  have hP := Blk.new w 73 #[.int .i64 0, .slice none 0 0]
  have hRl := hR.lt
  obtain ⟨w1, hw1⟩ : ∃ w1, w.alloc (.cells #[.int .i64 0, .slice none 0 0] 73) = w1 := ⟨_, rfl⟩
  rw [hw1] at hW hR1 hv1 hP
  cases l with
  | nil =>
    have hT := Lib.hid (take_not R B v [] 1 d M w1 hR1 hv1 (by simp))
    have HW := Lib.hid hW
    clear hW hR1 hv1 hP hR hv hH
    go_enter Tryd.func37, Tryd.ntmps37
    go_wp2_with fail
    refine hT.out.mono ?_
    rintro e w2 ⟨rfl, rfl⟩
    exact ⟨rfl, grown_of R HW.out, rfl⟩
  | cons f r =>
    have hT := Lib.hid (take_bt B R v (f :: r) 1 d M w1 hR1 hv1 hB (by simp))
    have HW := Lib.hid (And.intro hW (And.intro hP (hH.keep hW)))
    clear hW hR1 hv1 hP hR hv hH
    go_enter Tryd.func37, Tryd.ntmps37
    go_wp2_with fail
    refine hT.out.mono ?_
    rintro e w2 ⟨x, c, v2, rfl, hb, hR2, hv2, hg2⟩
    have hb1 : Bt B w2 (.slice x 1 c) [f] := hb
    have hv3 : Bt B w2 v2 r := hv2
    have hH2 := HW.out.2.2.far (by omega) hg2
    have hP2 := HW.out.2.1.kept hg2 (fun e => by injection e; omega)
    have hgw := grown_then' (grown_of R HW.out.1) hg2
    have hf : f < 256 := hb1.1 f (by simp)
    obtain ⟨b, o, rfl, hcf⟩ : ∃ b o, x = some ⟨b, o, none⟩ ∧ w2.cell? ⟨b, o, none⟩ = some (.int .u8 (f : Nat)) := by
      obtain ⟨_, x', c', he, _, _, h5⟩ := hb1
      injection he with e1 e2 e3
      rcases h5 with ⟨_, h, _⟩ | ⟨b, o, h, _, hc⟩
      · cases h
      · exact ⟨b, o, e1.trans h, by have := hc 0 f rfl; simpa using this⟩
    have hK := Lib.hid (kindUnder_any f hf w2 hH2)
    have H2 := Lib.hid (And.intro hb1 (And.intro hR2 (And.intro hv3 (And.intro hH2 (And.intro hP2 hgw)))))
    clear hT HW hb hv2 hb1 hR2 hv3 hH2 hP2 hgw hg2 hw1
    go_wp2_with fail
    refine hK.out.mono ?_
    rintro e w3 ⟨rfl, rfl⟩
    clear hK
    by_cases h128 : f < 128
    · have hkd : kdN f = 0 := by unfold kdN; rw [if_pos h128]
      rw [hkd]
      have hcs : cutS (f :: r) = some (0, [f], r) := by rw [cutS_cons, if_pos h128]
      have HC := Lib.hid hcs
      have p0 := cell_of_row _ _ 0 _ _ _ H2.out.2.2.2.2.1
      have p1 := cell_of_row _ _ 1 _ _ _ H2.out.2.2.2.2.1
      have f0 := frozen_of_row _ _ 0 _ _ H2.out.2.2.2.2.1
      have f1 := frozen_of_row _ _ 1 _ _ H2.out.2.2.2.2.1
      clear hkd h128 hcs hcf
      have hG := grown_set' (grown_set' (grown_refl w2 w.heap.size) 0 (.int .i64 0)) 1 (.slice (some ⟨b, o, none⟩) 1 c)
      have hBP : B ≤ w.heap.size := by omega
      have HF := Lib.hid (show Bt B _ (.slice (some ⟨b, o, none⟩) 1 c) [f] ∧ RB _ R v2 d M ∧ Bt B _ v2 r ∧ w.grownBy _ (some R) from ⟨H2.out.1.far hG hBP, H2.out.2.1.kept hG (fun e => by injection e; omega), H2.out.2.2.1.far hG hBP, grown_above H2.out.2.2.2.2.2 hG (Nat.le_refl _)⟩)
      clear H2 hG
      go_wp2_with fail
      exact bodyPost_ret (v := .agg #[.int .i64 0, .slice (some ⟨b, o, none⟩) 1 c]) (by simp [results, Tryd.results37, go_sem, p0, p1]) rfl ⟨HF.out.2.2.2, by rw [HC.out]; exact ⟨_, _, _, rfl, HF.out.1, v2, HF.out.2.1, HF.out.2.2.1⟩⟩
    · have hk3 : kdN f = 1 ∨ kdN f = 2 := by unfold kdN; rw [if_neg h128]; split <;> simp
      have hhd : hdN (kdN f) ≤ f ∧ f - hdN (kdN f) ≤ 63 := by
        unfold kdN hdN; rw [if_neg h128]
        by_cases h192 : f < 192
        · rw [if_pos h192]; simp; omega
        · rw [if_neg h192]; simp; omega
      have cH := H2.out.2.2.2.1 (kdN f) (by omega)
      have hcs : cutS (f :: r) = match leS (f - hdN (kdN f)) r with
        | none => none
        | some (n, r2) => if r2.length < n then none else some (kdN f, r2.take n, r2.drop n) := by rw [cutS_cons, if_neg h128]
      have HC := Lib.hid hcs
      obtain ⟨k, hk⟩ : ∃ k, kdN f = k := ⟨_, rfl⟩
      rw [hk] at hk3 hhd cH HC ⊢
      have hkI : ((k : Int) == 0) = false := by simp; omega
      have hk0 : 0 ≤ (k : Int) := by omega
      have hk4 : (k : Int) < 3 := by omega
      obtain ⟨h, hh⟩ : ∃ h, hdN k = h := ⟨_, rfl⟩
      rw [hh] at hhd cH HC
      have w5 : IntKind.u8.wrap ((f : Int) - (h : Int)) = ((f - h : Nat) : Int) := by rw [IntKind.wrap_u8]; omega
      obtain ⟨s, hs⟩ : ∃ s, f - h = s := ⟨_, rfl⟩
      rw [hs] at hhd HC w5
      clear hcs hk hh hs h128
      go_wp2_with fail
      have hd0 : w2.grownBy w2.drew (some R) := grown_drew (grown_refl w2 R)
      obtain ⟨hb1, hR2, hv3, hH2, hP2, hgw⟩ := H2.out
      have hgd := grown_then' hgw hd0
      have hRd := hR2.kept (row := none) (grown_drew ⟨rfl, rfl, rfl, Nat.le_refl _, fun _ _ _ => rfl⟩) (by simp)
      have hvd := hv3.far hd0 hB
      have hPd := hP2.drew'
      have hcd : w2.drew.cell? ⟨b, o, none⟩ = some (.int .u8 (f : Nat)) := hcf
      have hcH : w2.drew.cell? ⟨0, k, none⟩ = some (.int .u8 (h : Nat)) := cH
      have hL := length_any B R s v2 r d M w2.drew hhd.2 hRd hvd hB
      clear hb1 hR2 hv3 hH2 hP2 hgw H2 hcf cH hd0
      cases hle : leS s r with
      | none =>
        rw [hle] at hL
        have hL2 := Lib.hid (hL.mono (R' := fun e w' => e = .panicked [{ v := .iface 28 (.int .i64 160), recovered := false }] ∧ w2.drew.grownBy w' (some R)) (fun e w' h => ⟨h.2, h.1⟩))
        have hcs : cutS (f :: r) = none := by rw [HC.out, hle]
        have HF := Lib.hid (And.intro hcs hgd)
        clear hL hle hcs hgd hRd hvd hPd HC
        refine (wpIn_wide (n := 20)).1 (wpIn_region_any (by kernel_rfl) ?_)
        refine wpAnyIn_take (i := 0) (v := ?vq0a) rfl rfl (by kernel_rfl) (by kernel_rfl) (by kernel_rfl) (fun _ _ _ h => h) ⟨Or.inl ⟨by rfl, ?yq0a⟩, fun _ => rfl⟩ ?rq0a
        case yq0a => (intro w; go_simp <;> with_reducible rfl)
        refine wpAnyIn_take (i := 1) (v := ?vq1a) rfl rfl (by kernel_rfl) (by kernel_rfl) (by kernel_rfl) (fun _ _ _ h => h) ⟨Or.inl ⟨by rfl, ?yq1a⟩, fun _ => rfl⟩ ?rq1a
        case yq1a => (intro w; go_simp <;> with_reducible rfl)
        refine wpAnyIn_take (i := 2) (v := ?vq2a) rfl rfl (by kernel_rfl) (by kernel_rfl) (by kernel_rfl) (fun _ _ _ h => h) ⟨Or.inl ⟨by rfl, ?yq2a⟩, fun _ => rfl⟩ ?rq2a
        case yq2a => (intro w; go_simp <;> with_reducible rfl)
        refine wpAnyIn_take (i := 3) (v := ?vq3a) rfl rfl (by kernel_rfl) (by kernel_rfl) (by kernel_rfl) (fun _ _ _ h => h) ⟨Or.inl ⟨by rfl, ?yq3a⟩, fun _ => rfl⟩ ?rq3a
        case yq3a => (intro w; go_simp <;> with_reducible rfl)
        refine wpAnyIn_take (i := 4) (v := ?vq4a) rfl rfl (by kernel_rfl) (by kernel_rfl) (by kernel_rfl) (fun _ _ _ h => h) ⟨Or.inl ⟨by rfl, ?yq4a⟩, fun _ => rfl⟩ ?rq4a
        case yq4a => (intro w; go_simp <;> with_reducible rfl)
        refine wpAnyIn_take (i := 6) (v := ?vq6a) rfl rfl (by kernel_rfl) (by kernel_rfl) (by kernel_rfl) (fun _ _ _ h => h) ⟨Or.inl ⟨by rfl, ?yq6a⟩, fun _ => rfl⟩ ?rq6a
        case yq6a => (intro w; go_simp <;> with_reducible rfl)
        refine wpAnyIn_take (i := 7) (v := ?vq7a) rfl rfl (by kernel_rfl) (by kernel_rfl) (by kernel_rfl) (fun _ _ _ h => h) ⟨Or.inl ⟨by rfl, ?yq7a⟩, fun _ => rfl⟩ ?rq7a
        case yq7a => (intro w; go_simp <;> with_reducible rfl)
        refine join_all (T := ?TKa) (fun key => ?mka) ?kka
        case mka =>
          refine wpAnyIn_ready (rs := [5, 8]) (by kernel_rfl) (by simp) ?_
          refine AllReadyIn.cons rfl (fun K hK => ?_) (AllReadyIn.cons rfl (fun K hK => ?_) AllReadyIn.nil)
          · go_simp
            refine hK _ _ ?_
            clear hK K
            refine wpAnyIn_ready (rs := [8]) (by kernel_rfl) (by simp) ?_
            refine AllReadyIn.cons rfl (fun K hK => ?_) AllReadyIn.nil
            go_simp
            refine hK _ _ ?_
            clear hK K
            exact key.out
          · go_simp
            refine hK _ _ ?_
            clear hK K
            refine wpAnyIn_ready (rs := [5]) (by kernel_rfl) (by simp) ?_
            refine AllReadyIn.cons rfl (fun K hK => ?_) AllReadyIn.nil
            go_simp
            refine hK _ _ ?_
            clear hK K
            exact key.out
        case kka =>
          refine wpAnyIn_take (i := 9) (v := ?vq9a) rfl rfl (by kernel_rfl) (by kernel_rfl) (by kernel_rfl) (fun _ _ _ h => h) ⟨Or.inl ⟨by rfl, ?yq9a⟩, fun _ => rfl⟩ ?rq9a
          case yq9a => (intro w; go_simp <;> with_reducible rfl)
          refine wpAnyIn_ready (rs := [10]) (by kernel_rfl) (by simp) ?_
          refine AllReadyIn.cons rfl (fun K hK => ?_) AllReadyIn.nil
          go_simp
          refine ⟨trivial, (callsIn_wide.2 hL2.out).mono ?_⟩
          rintro e w3 ⟨rfl, hg3⟩
          exact ⟨rfl, grown_then' HF.out.2 hg3, by rw [HF.out.1]⟩
      | some nr =>
        obtain ⟨n, r2⟩ := nr
        rw [hle] at hL
        have hL2 := Lib.hid (hL.mono (R' := fun e w' => e = .returned (.int .u64 (n : Nat)) ∧ (∃ v4, RB w' R v4 d M ∧ Bt B w' v4 r2) ∧ w2.drew.grownBy w' (some R)) (fun e w' h => ⟨h.2.1, h.2.2, h.1⟩))
        by_cases hn : r2.length < n
        · have hcs : cutS (f :: r) = none := by rw [HC.out, hle]; exact if_pos hn
          have HF := Lib.hid (And.intro hcs hgd)
          have HN := Lib.hid hn
          clear hL hle hcs hgd hRd hvd hPd HC hn
          refine (wpIn_wide (n := 20)).1 (wpIn_region_any (by kernel_rfl) ?_)
          refine wpAnyIn_take (i := 0) (v := ?vq0b) rfl rfl (by kernel_rfl) (by kernel_rfl) (by kernel_rfl) (fun _ _ _ h => h) ⟨Or.inl ⟨by rfl, ?yq0b⟩, fun _ => rfl⟩ ?rq0b
          case yq0b => (intro w; go_simp <;> with_reducible rfl)
          refine wpAnyIn_take (i := 1) (v := ?vq1b) rfl rfl (by kernel_rfl) (by kernel_rfl) (by kernel_rfl) (fun _ _ _ h => h) ⟨Or.inl ⟨by rfl, ?yq1b⟩, fun _ => rfl⟩ ?rq1b
          case yq1b => (intro w; go_simp <;> with_reducible rfl)
          refine wpAnyIn_take (i := 2) (v := ?vq2b) rfl rfl (by kernel_rfl) (by kernel_rfl) (by kernel_rfl) (fun _ _ _ h => h) ⟨Or.inl ⟨by rfl, ?yq2b⟩, fun _ => rfl⟩ ?rq2b
          case yq2b => (intro w; go_simp <;> with_reducible rfl)
          refine wpAnyIn_take (i := 3) (v := ?vq3b) rfl rfl (by kernel_rfl) (by kernel_rfl) (by kernel_rfl) (fun _ _ _ h => h) ⟨Or.inl ⟨by rfl, ?yq3b⟩, fun _ => rfl⟩ ?rq3b
          case yq3b => (intro w; go_simp <;> with_reducible rfl)
          refine wpAnyIn_take (i := 4) (v := ?vq4b) rfl rfl (by kernel_rfl) (by kernel_rfl) (by kernel_rfl) (fun _ _ _ h => h) ⟨Or.inl ⟨by rfl, ?yq4b⟩, fun _ => rfl⟩ ?rq4b
          case yq4b => (intro w; go_simp <;> with_reducible rfl)
          refine wpAnyIn_take (i := 6) (v := ?vq6b) rfl rfl (by kernel_rfl) (by kernel_rfl) (by kernel_rfl) (fun _ _ _ h => h) ⟨Or.inl ⟨by rfl, ?yq6b⟩, fun _ => rfl⟩ ?rq6b
          case yq6b => (intro w; go_simp <;> with_reducible rfl)
          refine wpAnyIn_take (i := 7) (v := ?vq7b) rfl rfl (by kernel_rfl) (by kernel_rfl) (by kernel_rfl) (fun _ _ _ h => h) ⟨Or.inl ⟨by rfl, ?yq7b⟩, fun _ => rfl⟩ ?rq7b
          case yq7b => (intro w; go_simp <;> with_reducible rfl)
          refine join_all (T := ?TKb) (fun key => ?mkb) ?kkb
          case mkb =>
            refine wpAnyIn_ready (rs := [5, 8]) (by kernel_rfl) (by simp) ?_
            refine AllReadyIn.cons rfl (fun K hK => ?_) (AllReadyIn.cons rfl (fun K hK => ?_) AllReadyIn.nil)
            · go_simp
              refine hK _ _ ?_
              clear hK K
              refine wpAnyIn_ready (rs := [8]) (by kernel_rfl) (by simp) ?_
              refine AllReadyIn.cons rfl (fun K hK => ?_) AllReadyIn.nil
              go_simp
              refine hK _ _ ?_
              clear hK K
              exact key.out
            · go_simp
              refine hK _ _ ?_
              clear hK K
              refine wpAnyIn_ready (rs := [5]) (by kernel_rfl) (by simp) ?_
              refine AllReadyIn.cons rfl (fun K hK => ?_) AllReadyIn.nil
              go_simp
              refine hK _ _ ?_
              clear hK K
              exact key.out
          case kkb =>
            refine wpAnyIn_take (i := 9) (v := ?vq9b) rfl rfl (by kernel_rfl) (by kernel_rfl) (by kernel_rfl) (fun _ _ _ h => h) ⟨Or.inl ⟨by rfl, ?yq9b⟩, fun _ => rfl⟩ ?rq9b
            case yq9b => (intro w; go_simp <;> with_reducible rfl)
            refine wpAnyIn_ready (rs := [10]) (by kernel_rfl) (by simp) ?_
            refine AllReadyIn.cons rfl (fun K hK => ?_) AllReadyIn.nil
            go_simp
            refine ⟨trivial, (callsIn_wide.2 hL2.out).mono ?_⟩
            rintro e w3 ⟨rfl, ⟨v4, hR4, hv4⟩, hg3⟩
            refine hK _ _ ?_
            clear hK K
            refine wpAnyIn_ready (rs := [11]) (by kernel_rfl) (by simp) ?_
            refine AllReadyIn.cons rfl (fun K hK => ?_) AllReadyIn.nil
            go_simp
            refine ⟨trivial, (callsIn_wide.2 (take_not R B _ r2 n d M _ hR4 hv4 HN.out)).mono ?_⟩
            rintro e w4 ⟨rfl, rfl⟩
            exact ⟨rfl, grown_then' HF.out.2 hg3, by rw [HF.out.1]⟩
        · have hcs : cutS (f :: r) = some (k, r2.take n, r2.drop n) := by rw [HC.out, hle]; exact if_neg hn
          have HF := Lib.hid (And.intro hcs (And.intro hgd hPd))
          have HN := Lib.hid (show n ≤ r2.length by omega)
          clear hL hle hcs hgd hRd hvd hPd HC hn
          refine (wpIn_wide (n := 20)).1 (wpIn_region_any (by kernel_rfl) ?_)
          refine wpAnyIn_take (i := 0) (v := ?vq0c) rfl rfl (by kernel_rfl) (by kernel_rfl) (by kernel_rfl) (fun _ _ _ h => h) ⟨Or.inl ⟨by rfl, ?yq0c⟩, fun _ => rfl⟩ ?rq0c
          case yq0c => (intro w; go_simp <;> with_reducible rfl)
          refine wpAnyIn_take (i := 1) (v := ?vq1c) rfl rfl (by kernel_rfl) (by kernel_rfl) (by kernel_rfl) (fun _ _ _ h => h) ⟨Or.inl ⟨by rfl, ?yq1c⟩, fun _ => rfl⟩ ?rq1c
          case yq1c => (intro w; go_simp <;> with_reducible rfl)
          refine wpAnyIn_take (i := 2) (v := ?vq2c) rfl rfl (by kernel_rfl) (by kernel_rfl) (by kernel_rfl) (fun _ _ _ h => h) ⟨Or.inl ⟨by rfl, ?yq2c⟩, fun _ => rfl⟩ ?rq2c
          case yq2c => (intro w; go_simp <;> with_reducible rfl)
          refine wpAnyIn_take (i := 3) (v := ?vq3c) rfl rfl (by kernel_rfl) (by kernel_rfl) (by kernel_rfl) (fun _ _ _ h => h) ⟨Or.inl ⟨by rfl, ?yq3c⟩, fun _ => rfl⟩ ?rq3c
          case yq3c => (intro w; go_simp <;> with_reducible rfl)
          refine wpAnyIn_take (i := 4) (v := ?vq4c) rfl rfl (by kernel_rfl) (by kernel_rfl) (by kernel_rfl) (fun _ _ _ h => h) ⟨Or.inl ⟨by rfl, ?yq4c⟩, fun _ => rfl⟩ ?rq4c
          case yq4c => (intro w; go_simp <;> with_reducible rfl)
          refine wpAnyIn_take (i := 6) (v := ?vq6c) rfl rfl (by kernel_rfl) (by kernel_rfl) (by kernel_rfl) (fun _ _ _ h => h) ⟨Or.inl ⟨by rfl, ?yq6c⟩, fun _ => rfl⟩ ?rq6c
          case yq6c => (intro w; go_simp <;> with_reducible rfl)
          refine wpAnyIn_take (i := 7) (v := ?vq7c) rfl rfl (by kernel_rfl) (by kernel_rfl) (by kernel_rfl) (fun _ _ _ h => h) ⟨Or.inl ⟨by rfl, ?yq7c⟩, fun _ => rfl⟩ ?rq7c
          case yq7c => (intro w; go_simp <;> with_reducible rfl)
          refine join_all (T := ?TKc) (fun key => ?mkc) ?kkc
          case mkc =>
            refine wpAnyIn_ready (rs := [5, 8]) (by kernel_rfl) (by simp) ?_
            refine AllReadyIn.cons rfl (fun K hK => ?_) (AllReadyIn.cons rfl (fun K hK => ?_) AllReadyIn.nil)
            · go_simp
              refine hK _ _ ?_
              clear hK K
              refine wpAnyIn_ready (rs := [8]) (by kernel_rfl) (by simp) ?_
              refine AllReadyIn.cons rfl (fun K hK => ?_) AllReadyIn.nil
              go_simp
              refine hK _ _ ?_
              clear hK K
              exact key.out
            · go_simp
              refine hK _ _ ?_
              clear hK K
              refine wpAnyIn_ready (rs := [5]) (by kernel_rfl) (by simp) ?_
              refine AllReadyIn.cons rfl (fun K hK => ?_) AllReadyIn.nil
              go_simp
              refine hK _ _ ?_
              clear hK K
              exact key.out
          case kkc =>
            refine wpAnyIn_take (i := 9) (v := ?vq9c) rfl rfl (by kernel_rfl) (by kernel_rfl) (by kernel_rfl) (fun _ _ _ h => h) ⟨Or.inl ⟨by rfl, ?yq9c⟩, fun _ => rfl⟩ ?rq9c
            case yq9c => (intro w; go_simp <;> with_reducible rfl)
            refine wpAnyIn_ready (rs := [10]) (by kernel_rfl) (by simp) ?_
            refine AllReadyIn.cons rfl (fun K hK => ?_) AllReadyIn.nil
            go_simp
            refine ⟨trivial, (callsIn_wide.2 hL2.out).mono ?_⟩
            rintro e w3 ⟨rfl, ⟨v4, hR4, hv4⟩, hg3⟩
            refine hK _ _ ?_
            clear hK K
            refine wpAnyIn_ready (rs := [11]) (by kernel_rfl) (by simp) ?_
            refine AllReadyIn.cons rfl (fun K hK => ?_) AllReadyIn.nil
            go_simp
            refine ⟨trivial, (callsIn_wide.2 (take_bt B R _ r2 n d M _ hR4 hv4 hB HN.out)).mono ?_⟩
            rintro e w4 ⟨x5, c5, v5, rfl, hb5, hR5, hv5, hg5⟩
            have hP5 := (HF.out.2.2.kept hg3 (fun e => by injection e; omega)).kept hg5 (fun e => by injection e; omega)
            have p0 := cell_of_row _ _ 0 _ _ _ hP5
            have p1 := cell_of_row _ _ 1 _ _ _ hP5
            have f0 := frozen_of_row _ _ 0 _ _ hP5
            have f1 := frozen_of_row _ _ 1 _ _ hP5
            have hgw := grown_then' (grown_then' HF.out.2.1 hg3) hg5
            have hG := grown_set' (grown_set' (grown_refl w4 w.heap.size) 0 (.int .i64 k)) 1 (.slice x5 n c5)
            have hBP : B ≤ w.heap.size := by omega
            have hln : (r2.take n).length = n := by rw [List.length_take]; have := HN.out; omega
            have HE := Lib.hid (show Bt B _ (.slice x5 n c5) (r2.take n) ∧ RB _ R v5 d M ∧ Bt B _ v5 (r2.drop n) ∧ w.grownBy _ (some R) from ⟨hb5.far hG hBP, hR5.kept hG (fun e => by injection e; omega), hv5.far hG hBP, grown_above hgw hG (Nat.le_refl _)⟩)
            clear hP5 hgw hb5 hR5 hv5 hg5 hG hg3 hR4 hv4
            refine hK _ _ ?_
            clear hK K
            refine wpAnyIn_take (i := 12) (v := ?vq12) rfl rfl (by kernel_rfl) (by kernel_rfl) (by kernel_rfl) (fun _ _ _ h => h) ⟨Or.inl ⟨by rfl, ?yq12⟩, fun _ => rfl⟩ ?rq12
            case yq12 => (intro w; go_simp <;> with_reducible rfl)
            refine wpAnyIn_ready (rs := [13]) (by kernel_rfl) (by simp) ?_
            refine AllReadyIn.cons rfl (fun K hK => ?_) AllReadyIn.nil
            go_simp
            refine hK _ _ ?_
            clear hK K
            refine wpAnyIn_done (by kernel_rfl) ?_ _
            simp only [Exit.then]
            go_wp2_with fail
            exact bodyPost_ret (v := .agg #[.int .i64 k, .slice x5 n c5]) (by simp [results, Tryd.results37, go_sem, p0, p1]) rfl ⟨HE.out.2.2.2, by rw [HF.out.1]; exact ⟨_, _, _, rfl, HE.out.1, v5, HE.out.2.1, HE.out.2.2.1⟩⟩
end Go.Proofs.YtjmfnafbjfceoaaDoor

/- item: the reader's bytes and read, of pieces that are bytes. -/
namespace Go.Proofs.YtjmfnafbjfceoaaDoor
open Go.RowKit Go.Shelf
attribute [local irreducible] lb wdG byA byC heL nuL
set_option maxRecDepth 100000 in
set_option maxHeartbeats 4000000 in
theorem rbytes_item (B : Nat) (v : Value) (l : List Nat) (d : Int) (M : Nat) (w : World) (hv : Bt B w v l) (hl : l.length ≤ 100000) :
    Calls Tryd.prog 53 #[.agg #[v, .int .i64 d, .map (some M)]] w fun e w' => ∃ x m c, e = .returned (itB (.slice x m c)) ∧ Ow w' w.heap.size (.slice x m c) l ∧ Below w.heap.size w w' := by
  obtain ⟨_, x0, c0, rfl, _⟩ := id hv
  have hI := Blk.newS w (.cells #[.slice x0 l.length c0, .int .i64 d, .map (some M)] 68) 25 #[.bool false, .slice none 0 0, .slice none 0 0]
  have hW := balloc (balloc (Below.refl w.heap.size w) (.cells #[.slice x0 l.length c0, .int .i64 d, .map (some M)] 68)) (.cells #[.bool false, .slice none 0 0, .slice none 0 0] 25)
  have hC := Lib.hid (clone_ow B _ l _ (hv.new hW) hl)
  have HW := Lib.hid (And.intro hI hW)
  clear hI hW hv
  obtain ⟨q, hq⟩ : ∃ q, l.length = q := ⟨_, rfl⟩
  rw [hq] at hC HW hl ⊢
  clear hq
  go_enter Tryd.func53, Tryd.ntmps53
  go_wp2_with fail
  refine hC.out.mono ?_
  rintro e w1 ⟨x, m, c, rfl, hO, h1⟩
  have hI1 := HW.out.1.keep h1
  have k0 := cell_of_row w1 _ 0 _ _ _ hI1
  have k1 := cell_of_row w1 _ 1 _ _ _ hI1
  have k2 := cell_of_row w1 _ 2 _ _ _ hI1
  have f0 := frozen_of_row w1 _ 0 _ _ hI1
  have f1 := frozen_of_row w1 _ 1 _ _ hI1
  have f2 := frozen_of_row w1 _ 2 _ _ hI1
  have hG := grown_set' (grown_set' (grown_set' (grown_refl w1 (w.heap.size + 1)) 0 (.bool false)) 1 (.slice x m c)) 2 (.slice none 0 0)
  have hW1 := bstep HW.out.2 h1
  have hsz : w.heap.size + 2 ≤ ((w.alloc (.cells #[.slice x0 q c0, .int .i64 d, .map (some M)] 68)).alloc (.cells #[.bool false, .slice none 0 0, .slice none 0 0] 25)).heap.size := by simp
  have HF := Lib.hid (And.intro ((hO.kept hG (fun r e => by cases e; omega)).mono (show w.heap.size ≤ _ by omega)) (step_world hW1 hG (Nat.le_refl _) (by omega)))
  clear hI1 hG hW1 hO h1 HW hC
  go_wp2_with fail
  exact bodyPost_ret (v := itB (.slice x m c)) (by simp [results, Tryd.results53, go_sem, k0, k1, k2]) rfl ⟨_, _, _, rfl, HF.out⟩

/-- What read comes to. -/
def ReP (k : Nat) (l : List Nat) (w : World) (e : Ending) (w' : World) : Prop := Below w.heap.size w w' ∧ (if koL l = k then ∃ x m c, e = .returned (itB (.slice x m c)) ∧ Ow w' w.heap.size (.slice x m c) l else e = .panicked [{ v := .iface 28 (.int .i64 160), recovered := false }])
set_option maxRecDepth 100000 in
set_option maxHeartbeats 4000000 in
theorem read_bytes (B : Nat) (v : Value) (k : Nat) (x : Option Addr) (m c : Nat) (l : List Nat) (d d2 : Int) (M : Nat) (w : World) (hk : k = 0 ∨ k = 1) (hd : 0 ≤ d2 ∧ d2 ≤ 8) (hv0 : ∃ y n e, v = .slice y n e) (hv : Bt B w (.slice x m c) l) (hl : l.length ≤ 100000) (hM : KM w M) (hH : HD w) :
    Calls Tryd.prog 36 #[.agg #[v, .int .i64 d, .map (some M)], .agg #[.int .i64 k, .slice x m c], .int .i64 d2] w fun e w' => ReP k l w e w' := by
  obtain ⟨y, n, e, rfl⟩ := hv0
  have hW := balloc (balloc (balloc (Below.refl w.heap.size w) (.cells #[.slice y n e, .int .i64 d, .map (some M)] 68)) (.cells #[.int .i64 k, .slice x m c] 73)) (.cells #[.bool false, .slice none 0 0, .slice none 0 0] 25)
  have hPc := (Blk.newS w (.cells #[.slice y n e, .int .i64 d, .map (some M)] 68) 73 #[.int .i64 k, .slice x m c]).alloc (.cells #[.bool false, .slice none 0 0, .slice none 0 0] 25)
  have hsz : ((w.alloc (.cells #[.slice y n e, .int .i64 d, .map (some M)] 68)).alloc (.cells #[.int .i64 k, .slice x m c] 73)).heap.size = w.heap.size + 2 := by simp
  have hI := Blk.new ((w.alloc (.cells #[.slice y n e, .int .i64 d, .map (some M)] 68)).alloc (.cells #[.int .i64 k, .slice x m c] 73)) 25 #[.bool false, .slice none 0 0, .slice none 0 0]
  rw [hsz] at hI
  have hlook := look_at M kES 3 k k (.func (.func 53) #[] #[]) _ (hM.keep hW) (by rcases hk with rfl | rfl <;> rfl)
  have hg1 : ¬ (8 : Int) < d2 := by omega
  have hRb := Lib.hid (rbytes_item B (.slice x m c) l d2 M _ (hv.new hW) hl)
  have HX := Lib.hid (And.intro hW (And.intro hPc (And.intro hI (hH.keep hW))))
  clear hW hPc hI hM hH hv hsz
  go_enter Tryd.func36, Tryd.ntmps36
  go_wp2_with fail
  refine hRb.out.mono ?_
  clear hlook hRb
  rintro e w1 ⟨x1, m1, c1, rfl, hO, h1⟩
  have hP1 := (HX.out.2.1.keep h1).alloc (.cells #[.bool false, .slice x1 m1 c1, .slice none 0 0] 25)
  have hI1 := (HX.out.2.2.1.keep h1).alloc (.cells #[.bool false, .slice x1 m1 c1, .slice none 0 0] 25)
  have hT1 := Blk.new w1 25 #[.bool false, .slice x1 m1 c1, .slice none 0 0]
  have hst := balloc (Below.refl w1.heap.size w1) (.cells #[.bool false, .slice x1 m1 c1, .slice none 0 0] 25)
  have hO1 := (hO.new hst).mono (show w.heap.size + 3 ≤ _ by simp)
  have hW1 := bstep (bstep HX.out.1 h1) hst
  have hH1 := (HX.out.2.2.2.keep h1).keep hst
  have H1 := Lib.hid (And.intro hP1 (And.intro hI1 (And.intro hT1 (And.intro hO1 (And.intro hW1 hH1)))))
  clear hP1 hI1 hT1 hst hO1 hW1 hH1 hO h1 HX
  go_wp2_with fail
  obtain ⟨hP1, hI1, hT1, hO1, hW1, hH1⟩ := H1.out
  obtain ⟨W1, hWW⟩ : ∃ W1, w1.alloc (.cells #[.bool false, .slice x1 m1 c1, .slice none 0 0] 25) = W1 := ⟨_, rfl⟩
  rw [hWW] at hP1 hI1 hT1 hO1 hW1 hH1 ⊢
  clear H1 hWW
  generalize w1.heap.size = gt at hT1 ⊢
  have hdr : Below W1.heap.size W1 W1.drew := (Below.refl _ _).drew
  have hC := kindOf_bytes (.slice x1 m1 c1) l _ W1.drew (hO1.bt.new hdr) (hH1.keep hdr)
  have HC := Lib.hid hC
  have c0 : W1.drew.cell? ⟨gt, 0, none⟩ = some (.bool false) := cell_of_row _ _ 0 _ _ _ (hT1.keep hdr)
  have c1' : W1.drew.cell? ⟨gt, 1, none⟩ = some (.slice x1 m1 c1) := cell_of_row _ _ 1 _ _ _ (hT1.keep hdr)
  have c2 : W1.drew.cell? ⟨gt, 2, none⟩ = some (.slice none 0 0) := cell_of_row _ _ 2 _ _ _ (hT1.keep hdr)
  have cK : W1.drew.cell? ⟨w.heap.size + 1, 0, none⟩ = some (.int .i64 k) := cell_of_row _ _ 0 _ _ _ (hP1.keep hdr)
  have hPl : w.heap.size + 1 < W1.drew.heap.size := hP1.lt
  have H1 := Lib.hid (And.intro (hI1.keep hdr) (And.intro (hT1.keep hdr) (And.intro (hO1.new hdr) (bstep hW1 hdr))))
  clear hP1 hI1 hT1 hO1 hW1 hH1 hdr hC
  obtain ⟨kk, hkk⟩ : ∃ kk, koL l = kk := ⟨_, rfl⟩
  rw [hkk] at HC
  have HKK := Lib.hid hkk
  clear hkk
  by_cases he : kk = k
  · subst he
    refine (wpIn_wide (n := 20)).1 (wpIn_region_any (by kernel_rfl) ?_)
    refine wpAnyIn_take (i := 2) (v := ?vq2a) rfl rfl (by kernel_rfl) (by kernel_rfl) (by kernel_rfl) (fun _ _ _ h => h) ⟨Or.inl ⟨by rfl, ?yq2a⟩, fun _ => rfl⟩ ?rq2a
    case yq2a => (intro w; go_simp <;> with_reducible rfl)
    refine join_all (T := ?TKa) (fun key => ?mka) ?kka
    case mka =>
      refine wpAnyIn_ready (rs := [0, 3]) (by kernel_rfl) (by simp) ?_
      refine AllReadyIn.cons rfl (fun K hK => ?_) (AllReadyIn.cons rfl (fun K hK => ?_) (AllReadyIn.nil))
      · go_simp
        refine hK _ _ ?_
        clear hK K
        refine wpAnyIn_ready (rs := [1, 3]) (by kernel_rfl) (by simp) ?_
        refine AllReadyIn.cons rfl (fun K hK => ?_) (AllReadyIn.cons rfl (fun K hK => ?_) (AllReadyIn.nil))
        · go_simp
          refine ⟨trivial, (callsIn_wide.2 HC.out).mono ?_⟩
          rintro e wk ⟨rfl, hwk⟩
          have cK := (hwk.cell (p := ⟨w.heap.size + 1, 0, none⟩) hPl).trans cK
          have HF := Lib.hid hwk
          clear hwk
          refine hK _ _ ?_
          clear hK K
          refine wpAnyIn_ready (rs := [3]) (by kernel_rfl) (by simp) ?_
          refine AllReadyIn.cons rfl (fun K hK => ?_) (AllReadyIn.nil)
          · go_simp
            refine hK _ _ ?_
            clear hK K
            revert HF
            revert wk
            exact key.out
        · go_simp
          refine hK _ _ ?_
          clear hK K
          refine wpAnyIn_ready (rs := [1]) (by kernel_rfl) (by simp) ?_
          refine AllReadyIn.cons rfl (fun K hK => ?_) (AllReadyIn.nil)
          · go_simp
            refine ⟨trivial, (callsIn_wide.2 HC.out).mono ?_⟩
            rintro e wk ⟨rfl, hwk⟩
            have cK := (hwk.cell (p := ⟨w.heap.size + 1, 0, none⟩) hPl).trans cK
            have HF := Lib.hid hwk
            clear hwk
            refine hK _ _ ?_
            clear hK K
            revert HF
            revert wk
            exact key.out
      · go_simp
        refine hK _ _ ?_
        clear hK K
        refine wpAnyIn_ready (rs := [0]) (by kernel_rfl) (by simp) ?_
        refine AllReadyIn.cons rfl (fun K hK => ?_) (AllReadyIn.nil)
        · go_simp
          refine hK _ _ ?_
          clear hK K
          refine wpAnyIn_ready (rs := [1]) (by kernel_rfl) (by simp) ?_
          refine AllReadyIn.cons rfl (fun K hK => ?_) (AllReadyIn.nil)
          · go_simp
            refine ⟨trivial, (callsIn_wide.2 HC.out).mono ?_⟩
            rintro e wk ⟨rfl, hwk⟩
            have cK := (hwk.cell (p := ⟨w.heap.size + 1, 0, none⟩) hPl).trans cK
            have HF := Lib.hid hwk
            clear hwk
            refine hK _ _ ?_
            clear hK K
            revert HF
            revert wk
            exact key.out
    case kka =>
      intro wk cKw HF
      refine wpAnyIn_take (i := 4) (v := ?vq4a) rfl rfl (by kernel_rfl) (by kernel_rfl) (by kernel_rfl) (fun _ _ _ h => h) ⟨Or.inl ⟨by rfl, ?yq4a⟩, fun _ => rfl⟩ ?rq4a
      case yq4a => (intro w; go_simp <;> with_reducible rfl)
      refine wpAnyIn_done (by kernel_rfl) ?_ _
      simp only [Exit.then]
      have hI2 := H1.out.1.keep HF.out
      have hT2 := H1.out.2.1.keep HF.out
      have i0 := cell_of_row wk _ 0 _ _ _ hI2
      have i1 := cell_of_row wk _ 1 _ _ _ hI2
      have i2 := cell_of_row wk _ 2 _ _ _ hI2
      have f0 := frozen_of_row wk _ 0 _ _ hI2
      have f1 := frozen_of_row wk _ 1 _ _ hI2
      have f2 := frozen_of_row wk _ 2 _ _ hI2
      have t0 := cell_of_row wk _ 0 _ _ _ hT2
      have t1 := cell_of_row wk _ 1 _ _ _ hT2
      have t2 := cell_of_row wk _ 2 _ _ _ hT2
      have hG := grown_set' (grown_set' (grown_set' (grown_refl wk (w.heap.size + 2)) 0 (.bool false)) 1 (.slice x1 m1 c1)) 2 (.slice none 0 0)
      have hOk := (((H1.out.2.2.1.new HF.out).kept hG (fun r e => by cases e; omega))).mono (show w.heap.size ≤ w.heap.size + 3 by omega)
      have hWk := step_world (bstep H1.out.2.2.2 HF.out) hG (Nat.le_refl _) (by omega)
      have HE := Lib.hid (And.intro hOk hWk)
      clear hI2 hT2 hG hOk hWk
      go_wp2_with fail
      exact bodyPost_ret (v := itB (.slice x1 m1 c1)) (by simp [results, Tryd.results36, go_sem, i0, i1, i2]) rfl ⟨HE.out.2, by rw [if_pos HKK.out]; exact ⟨_, _, _, rfl, HE.out.1⟩⟩
  · have hne : ((kk : Int) != (k : Int)) = true := by simp; omega
    refine (wpIn_wide (n := 20)).1 (wpIn_region_any (by kernel_rfl) ?_)
    refine wpAnyIn_take (i := 2) (v := ?vq2b) rfl rfl (by kernel_rfl) (by kernel_rfl) (by kernel_rfl) (fun _ _ _ h => h) ⟨Or.inl ⟨by rfl, ?yq2b⟩, fun _ => rfl⟩ ?rq2b
    case yq2b => (intro w; go_simp <;> with_reducible rfl)
    refine join_all (T := ?TKb) (fun key => ?mkb) ?kkb
    case mkb =>
      refine wpAnyIn_ready (rs := [0, 3]) (by kernel_rfl) (by simp) ?_
      refine AllReadyIn.cons rfl (fun K hK => ?_) (AllReadyIn.cons rfl (fun K hK => ?_) (AllReadyIn.nil))
      · go_simp
        refine hK _ _ ?_
        clear hK K
        refine wpAnyIn_ready (rs := [1, 3]) (by kernel_rfl) (by simp) ?_
        refine AllReadyIn.cons rfl (fun K hK => ?_) (AllReadyIn.cons rfl (fun K hK => ?_) (AllReadyIn.nil))
        · go_simp
          refine ⟨trivial, (callsIn_wide.2 HC.out).mono ?_⟩
          rintro e wk ⟨rfl, hwk⟩
          have cK := (hwk.cell (p := ⟨w.heap.size + 1, 0, none⟩) hPl).trans cK
          have HF := Lib.hid hwk
          clear hwk
          refine hK _ _ ?_
          clear hK K
          refine wpAnyIn_ready (rs := [3]) (by kernel_rfl) (by simp) ?_
          refine AllReadyIn.cons rfl (fun K hK => ?_) (AllReadyIn.nil)
          · go_simp
            refine hK _ _ ?_
            clear hK K
            revert HF
            revert wk
            exact key.out
        · go_simp
          refine hK _ _ ?_
          clear hK K
          refine wpAnyIn_ready (rs := [1]) (by kernel_rfl) (by simp) ?_
          refine AllReadyIn.cons rfl (fun K hK => ?_) (AllReadyIn.nil)
          · go_simp
            refine ⟨trivial, (callsIn_wide.2 HC.out).mono ?_⟩
            rintro e wk ⟨rfl, hwk⟩
            have cK := (hwk.cell (p := ⟨w.heap.size + 1, 0, none⟩) hPl).trans cK
            have HF := Lib.hid hwk
            clear hwk
            refine hK _ _ ?_
            clear hK K
            revert HF
            revert wk
            exact key.out
      · go_simp
        refine hK _ _ ?_
        clear hK K
        refine wpAnyIn_ready (rs := [0]) (by kernel_rfl) (by simp) ?_
        refine AllReadyIn.cons rfl (fun K hK => ?_) (AllReadyIn.nil)
        · go_simp
          refine hK _ _ ?_
          clear hK K
          refine wpAnyIn_ready (rs := [1]) (by kernel_rfl) (by simp) ?_
          refine AllReadyIn.cons rfl (fun K hK => ?_) (AllReadyIn.nil)
          · go_simp
            refine ⟨trivial, (callsIn_wide.2 HC.out).mono ?_⟩
            rintro e wk ⟨rfl, hwk⟩
            have cK := (hwk.cell (p := ⟨w.heap.size + 1, 0, none⟩) hPl).trans cK
            have HF := Lib.hid hwk
            clear hwk
            refine hK _ _ ?_
            clear hK K
            revert HF
            revert wk
            exact key.out
    case kkb =>
      intro wk cKw HF
      refine wpAnyIn_take (i := 4) (v := ?vq4b) rfl rfl (by kernel_rfl) (by kernel_rfl) (by kernel_rfl) (fun _ _ _ h => h) ⟨Or.inl ⟨by rfl, ?yq4b⟩, fun _ => rfl⟩ ?rq4b
      case yq4b => (intro w; go_simp <;> with_reducible rfl)
      refine wpAnyIn_done (by kernel_rfl) ?_ _
      simp only [Exit.then]
      go_wp2_with fail
      exact ⟨rfl, bstep H1.out.2.2.2 HF.out, by rw [if_neg (by rw [HKK.out]; exact he)]⟩
end Go.Proofs.YtjmfnafbjfceoaaDoor

/- item: attempt of an item: where it returns, where it gives up. -/
namespace Go.Proofs.YtjmfnafbjfceoaaDoor
open Go.RowKit Go.Shelf
attribute [local irreducible] lb wdG byA byC heL nuL
theorem catchi_idle (p : Addr) (w : World) :
    CallsD Tryd.prog 55 #[.pointer (some p)] .returning w fun e u' w' => e = .returned (.tuple #[]) ∧ u' = .returning ∧ w' = w := by
  refine callsD_of_wpS Tryd.func55 rfl fun c₀ cs hu => ?_
  apply wpS_seq
  apply wpS_region
  simp [wpOpsS, go_sem, recoverD, hu, Tryd.ntmps55, Exit.thenS]
  rw [show (#[Value.pointer (some p)] ++ ((Array.replicate 15 undef).setIfInBounds 3 .nilIface).setIfInBounds 0 .nilIface : Array Value) = #[.pointer (some p), .nilIface, undef, undef, .nilIface, undef, undef, undef, undef, undef, undef, undef, undef, undef, undef, undef] from rfl]
  refine wpS_of_wp ?_
  go_wp2_with fail
  cases c₀
  simp_all [bodyPostS, results, Tryd.results55]

set_option maxRecDepth 100000 in
set_option maxHeartbeats 2000000 in
theorem catchi_errno (p : Addr) (x k : Int) (older : List PanicEntry) (w : World) (hc : w.cell? p = some (.int .i64 x)) (hz : w.frozen? p = false) :
    CallsD Tryd.prog 55 #[.pointer (some p)] (.panicking ({ v := .iface 28 (.int .i64 k), recovered := false } :: older)) w fun e u' w' =>
      e = .returned (.tuple #[]) ∧ u' = .panicking ({ v := .iface 28 (.int .i64 k), recovered := true } :: older) ∧ w' = w.setCell p (.int .i64 k) := by
  refine callsD_of_wpS Tryd.func55 rfl fun c₀ cs hu => ?_
  apply wpS_seq
  apply wpS_region
  simp [wpOpsS, go_sem, recoverD, hu, Tryd.ntmps55, Exit.thenS]
  rw [show (#[Value.pointer (some p)] ++ ((Array.replicate 15 undef).setIfInBounds 3 (.iface 28 (.int .i64 k))).setIfInBounds 0 (.iface 28 (.int .i64 k)) : Array Value) = #[.pointer (some p), .iface 28 (.int .i64 k), undef, undef, .iface 28 (.int .i64 k), undef, undef, undef, undef, undef, undef, undef, undef, undef, undef, undef] from rfl]
  refine wpS_of_wp ?_
  have hta : ∀ w, (Instr.typeAssert (.iface 28 (.int .i64 k)) 20 28 true).run Tryd.prog w = .ok (.tuple #[.int .i64 k, .bool true]) w := fun w => by kernel_rfl
  go_wp2_with fail
  simp [bodyPostS, results, Tryd.results55]

set_option maxRecDepth 100000 in
set_option maxHeartbeats 2000000 in
theorem attempti_ret (R : Nat) (w : World) (hRl : R < w.heap.size) (Pv : Value → World → Prop)
    (hF : ∀ wr, Below w.heap.size w wr → w.heap.size + 2 ≤ wr.heap.size → Calls Tryd.prog 35 #[.pointer (some ⟨R, 0, none⟩)] wr fun e w' => ∃ b x m c y n d, e = .returned (itW b x m c y n d) ∧ Pv (itW b x m c y n d) w' ∧ wr.grownBy w' (some R))
    (hP : ∀ v X Y g, Pv v X → X.grownBy Y (some g) → (g = w.heap.size ∨ g = w.heap.size + 1) → Pv v Y) :
    Calls Tryd.prog 34 #[.func (.func 35) #[] #[.pointer (some ⟨R, 0, none⟩)]] w fun e w' => ∃ b x m c y n d, e = .returned (.tuple #[itW b x m c y n d, .int .i64 0]) ∧ Pv (itW b x m c y n d) w' ∧ w.grownBy w' (some R) := by
  have hmf : ∀ (fn : Fn) (first cap : Array Value) (w : World), (Instr.makeFunc fn first cap).run Tryd.prog w = .ok (.func fn first cap) w := fun _ _ _ _ => rfl
  have hI0 := (Blk.new w 25 #[.bool false, .slice none 0 0, .slice none 0 0]).alloc (.cells #[.int .i64 0] 28)
  have hE0 := Blk.newS w (.cells #[.bool false, .slice none 0 0, .slice none 0 0] 25) 28 #[.int .i64 0]
  have hW := balloc (balloc (Below.refl w.heap.size w) (.cells #[.bool false, .slice none 0 0, .slice none 0 0] 25)) (.cells #[.int .i64 0] 28)
  have hC := Lib.hid (hF _ hW (by simp))
  have HX := Lib.hid (And.intro hI0 (And.intro hE0 hW))
  clear hF hI0 hE0 hW
  go_enter_defers Tryd.func34, Tryd.ntmps34
  go_wp2_with fail
  refine hC.out.mono ?_
  rintro e w1 ⟨b, x, m, c, y, n, d, rfl, hp, hg⟩
  have hI1 := HX.out.1.kept hg (fun e => by injection e; omega)
  have hE1 := HX.out.2.1.kept hg (fun e => by injection e; omega)
  have i0 := cell_of_row w1 _ 0 _ _ _ hI1
  have i1 := cell_of_row w1 _ 1 _ _ _ hI1
  have i2 := cell_of_row w1 _ 2 _ _ _ hI1
  have f0 := frozen_of_row w1 _ 0 _ _ hI1
  have f1 := frozen_of_row w1 _ 1 _ _ hI1
  have f2 := frozen_of_row w1 _ 2 _ _ hI1
  have e0 := cell_of_row w1 _ 0 _ _ _ hE1
  have fe := frozen_of_row w1 _ 0 _ _ hE1
  have hG1 := grown_set' (grown_set' (grown_set' (grown_refl w1 w.heap.size) 0 (.bool b)) 1 (.slice x m c)) 2 (.slice y n d)
  have hp1 := hP _ _ _ _ hp hG1 (.inl rfl)
  have hG2 := grown_set' (grown_refl (((w1.setCell ⟨w.heap.size, 0, none⟩ (.bool b)).setCell ⟨w.heap.size, 1, none⟩ (.slice x m c)).setCell ⟨w.heap.size, 2, none⟩ (.slice y n d)) (w.heap.size + 1)) 0 (.int .i64 0)
  have hp2 := hP _ _ _ _ hp1 hG2 (.inr rfl)
  have hgw := grown_above (grown_above (grown_then' (grown_of R HX.out.2.2) ⟨hg.os, hg.tape, hg.output, hg.size, hg.block⟩) hG1 (Nat.le_refl _)) hG2 (by omega)
  have HF := Lib.hid (And.intro hp2 hgw)
  clear hp hp1 hp2 hgw hG1 hG2 hI1 hE1 hg hP HX hC
  go_wp2_with fail
  refine leaves_cons (f := 55) (args := #[.pointer (some ⟨w.heap.size + 1, 0, none⟩)]) (by simp) (by simp [go_sem]) ?_
  refine (catchi_idle ⟨w.heap.size + 1, 0, none⟩ _).mono ?_
  rintro e u' w'' ⟨rfl, rfl, rfl⟩
  refine ⟨.tuple #[itW b x m c y n d, .int .i64 0], ?_, _, _, _, _, _, _, _, rfl, HF.out⟩
  simp [results, Tryd.results34, go_sem, i0, i1, i2, e0]

set_option maxRecDepth 100000 in
set_option maxHeartbeats 2000000 in
theorem attempti_gives (R : Nat) (k : Int) (w : World) (hRl : R < w.heap.size)
    (hF : ∀ wr, Below w.heap.size w wr → w.heap.size + 2 ≤ wr.heap.size → Calls Tryd.prog 35 #[.pointer (some ⟨R, 0, none⟩)] wr fun e w' => e = .panicked [{ v := .iface 28 (.int .i64 k), recovered := false }] ∧ wr.grownBy w' (some R)) :
    Calls Tryd.prog 34 #[.func (.func 35) #[] #[.pointer (some ⟨R, 0, none⟩)]] w fun e w' => e = .returned (.tuple #[itW false none 0 0 none 0 0, .int .i64 k]) ∧ w.grownBy w' (some R) := by
  have hmf : ∀ (fn : Fn) (first cap : Array Value) (w : World), (Instr.makeFunc fn first cap).run Tryd.prog w = .ok (.func fn first cap) w := fun _ _ _ _ => rfl
  have hI0 := (Blk.new w 25 #[.bool false, .slice none 0 0, .slice none 0 0]).alloc (.cells #[.int .i64 0] 28)
  have hE0 := Blk.newS w (.cells #[.bool false, .slice none 0 0, .slice none 0 0] 25) 28 #[.int .i64 0]
  have hW := balloc (balloc (Below.refl w.heap.size w) (.cells #[.bool false, .slice none 0 0, .slice none 0 0] 25)) (.cells #[.int .i64 0] 28)
  have hC := Lib.hid (hF _ hW (by simp))
  have HX := Lib.hid (And.intro hI0 (And.intro hE0 hW))
  clear hF hI0 hE0 hW
  go_enter_defers Tryd.func34, Tryd.ntmps34
  go_wp2_with fail
  refine hC.out.mono ?_
  rintro e w1 ⟨rfl, hg⟩
  have hI1 := HX.out.1.kept hg (fun e => by injection e; omega)
  have hE1 := HX.out.2.1.kept hg (fun e => by injection e; omega)
  have i0 := cell_of_row w1 _ 0 _ _ _ hI1
  have i1 := cell_of_row w1 _ 1 _ _ _ hI1
  have i2 := cell_of_row w1 _ 2 _ _ _ hI1
  have e0 : w1.cell? ⟨w.heap.size + 1, 0, none⟩ = some (.int .i64 0) := cell_of_row w1 _ 0 _ _ _ hE1
  have fe := frozen_of_row w1 _ 0 _ _ hE1
  have hG2 := grown_set' (grown_refl w1 (w.heap.size + 1)) 0 (.int .i64 k)
  have hgw := grown_above (grown_then' (grown_of R HX.out.2.2) ⟨hg.os, hg.tape, hg.output, hg.size, hg.block⟩) hG2 (by omega)
  have HF := Lib.hid hgw
  clear hgw hG2 hI1 hE1 hg HX hC
  refine leaves_cons (f := 55) (args := #[.pointer (some ⟨w.heap.size + 1, 0, none⟩)]) (by simp) (by simp [go_sem]) ?_
  refine (catchi_errno ⟨w.heap.size + 1, 0, none⟩ 0 k [] _ e0 fe).mono ?_
  rintro e u' w'' ⟨rfl, rfl, rfl⟩
  refine ⟨.tuple #[itW false none 0 0 none 0 0, .int .i64 k], ?_, rfl, HF.out⟩
  simp [results, Tryd.results34, go_sem, i0, i1, i2, e0]
end Go.Proofs.YtjmfnafbjfceoaaDoor

/- item: First's closure, of bytes that begin with an item of bytes, or with none. -/
namespace Go.Proofs.YtjmfnafbjfceoaaDoor
open Go.RowKit Go.Shelf
attribute [local irreducible] lb wdG byA byC heL nuL
theorem KM.kept {w X : World} {b : Nat} {row : Option Nat} (h : KM w b) (hg : w.grownBy X row) (hne : some b ≠ row) : KM X b := (hg.block b (Array.getElem?_eq_some_iff.1 h).1 hne).trans h
theorem cut_len {l : List Nat} {k : Nat} {b r : List Nat} (h : cutS l = some (k, b, r)) : b.length ≤ l.length ∧ r.length ≤ l.length := by
  cases l with
  | nil => cases h
  | cons f r0 =>
    rw [cutS_cons] at h
    split at h
    · injection h with h; injection h with _ h; injection h with h1 h2; subst h1 h2; simp
    · have hle : ∀ s n r2, leS s r0 = some (n, r2) → r2.length ≤ r0.length := fun s n r2 h => by
        unfold leS at h
        split at h
        · injection h with h; injection h with _ h; subst h; exact Nat.le_refl _
        · split at h
          · cases h
          · split at h
            · injection h with h; injection h with _ h; subst h; simp
            · cases h
      cases hl : leS (f - hdN (kdN f)) r0 with
      | none => rw [hl] at h; cases h
      | some nr =>
        obtain ⟨n, r2⟩ := nr
        rw [hl] at h
        have h2 := hle _ _ _ hl
        simp only at h
        split at h
        · cases h
        · injection h with h; injection h with _ h; injection h with h3 h4; subst h3 h4
          simp; omega

set_option maxRecDepth 100000 in
set_option maxHeartbeats 4000000 in
theorem first1_ret (B R : Nat) (v : Value) (l : List Nat) (d : Int) (M : Nat) (k : Nat) (body r2 : List Nat) (w : World) (hR : RB w R v d M) (hv : Bt B w v l) (hB : B ≤ R) (hH : HD w) (hgR : 0 < R) (hM : KM w M) (hMR : M ≠ R) (hl : l.length ≤ 4096) (hcs : cutS l = some (k, body, r2)) (hk : k = 0 ∨ k = 1) (hko : koL body = k) :
    Calls Tryd.prog 35 #[.pointer (some ⟨R, 0, none⟩)] w fun e w' => ∃ x m c, e = .returned (itB (.slice x m c)) ∧ Ow w' w.heap.size (.slice x m c) body ∧ (∃ v2, RB w' R v2 d M ∧ Bt B w' v2 r2) ∧ w.grownBy w' (some R) := by
  obtain ⟨_, y, e, rfl, _⟩ := id hv
  have hW := balloc (Below.refl w.heap.size w) (.cells #[.bool false, .slice none 0 0, .slice none 0 0] 25)
  have hI := Blk.new w 25 #[.bool false, .slice none 0 0, .slice none 0 0]
  have hRl := hR.lt
  obtain ⟨W1, hW1⟩ : ∃ W1, w.alloc (.cells #[.bool false, .slice none 0 0, .slice none 0 0] 25) = W1 := ⟨_, rfl⟩
  rw [hW1] at hW hI
  have hd0 : Below W1.heap.size W1 W1.drew := (Below.refl _ _).drew
  have hWd := bstep hW hd0
  have hRd := hR.keep hWd
  have hvd := hv.new hWd
  have hHd := hH.keep hWd
  have hMd := hM.keep hWd
  have hId := hI.keep hd0
  have hC := cut_any B R _ l d M W1.drew hRd hvd hB hHd hgR
  rw [hcs] at hC
  have HC := Lib.hid (hC.mono (R' := fun e w' => ∃ x m c, e = .returned (.agg #[.int .i64 k, .slice x m c]) ∧ Bt B w' (.slice x m c) body ∧ (∃ v2, RB w' R v2 d M ∧ Bt B w' v2 r2) ∧ W1.drew.grownBy w' (some R)) (fun e w' h => by obtain ⟨x, m, c, h1, h2, h3⟩ := h.2; exact ⟨x, m, c, h1, h2, h3, h.1⟩))
  have hbl := (cut_len hcs).1
  have r0 : W1.drew.cell? ⟨R, 0, none⟩ = some (.slice y l.length e) := cell_of_row _ _ 0 _ _ _ hRd
  have r1 : W1.drew.cell? ⟨R, 1, none⟩ = some (.int .i64 d) := cell_of_row _ _ 1 _ _ _ hRd
  have r2' : W1.drew.cell? ⟨R, 2, none⟩ = some (.map (some M)) := cell_of_row _ _ 2 _ _ _ hRd
  have HX := Lib.hid (And.intro hWd (And.intro hHd (And.intro hMd hId)))
  clear hC hR hv hH hM hW hI hd0 hWd hRd hvd hHd hMd hId hcs
  obtain ⟨N, hN⟩ : ∃ N, l.length = N := ⟨_, rfl⟩
  rw [hN] at r0
  clear hN
  go_enter Tryd.func35, Tryd.ntmps35
  go_wp2_with fail
  refine (wpIn_wide (n := 20)).1 (wpIn_region_any (by kernel_rfl) ?_)
  refine wpAnyIn_take (i := 1) (v := ?vq1) rfl rfl (by kernel_rfl) (by kernel_rfl) (by kernel_rfl) (fun _ _ _ h => h) ⟨Or.inl ⟨by rfl, ?yq1⟩, fun _ => rfl⟩ ?rq1
  case yq1 => (intro w; go_simp <;> with_reducible rfl)
  refine wpAnyIn_ready (rs := [0, 2]) (by kernel_rfl) (by simp) ?_
  refine AllReadyIn.cons rfl (fun K hK => ?_) (AllReadyIn.cons rfl (fun K hK => ?_) (AllReadyIn.nil))
  · go_simp
    refine hK _ _ ?_
    clear hK K
    refine wpAnyIn_ready (rs := [2]) (by kernel_rfl) (by simp) ?_
    refine AllReadyIn.cons rfl (fun K hK => ?_) (AllReadyIn.nil)
    go_simp
    refine ⟨trivial, (callsIn_wide.2 HC.out).mono ?_⟩
    rintro e w3 ⟨x3, m3, c3, rfl, hb3, ⟨v3, hR3, hv3⟩, hg3⟩
    have hH3 := HX.out.2.1.far (by omega) hg3
    have hM3 := HX.out.2.2.1.kept hg3 (fun e => by injection e; omega)
    have hI3 := HX.out.2.2.2.kept hg3 (fun e => by injection e; omega)
    have hgw3 := grown_then' (grown_of R HX.out.1) hg3
    obtain ⟨_, y3, e3, rfl, _⟩ := id hv3
    have q0 : w3.cell? ⟨R, 0, none⟩ = some (.slice y3 r2.length e3) := cell_of_row _ _ 0 _ _ _ hR3
    have q1 : w3.cell? ⟨R, 1, none⟩ = some (.int .i64 d) := cell_of_row _ _ 1 _ _ _ hR3
    have q2 : w3.cell? ⟨R, 2, none⟩ = some (.map (some M)) := cell_of_row _ _ 2 _ _ _ hR3
    have hRead := fun (vv : Value) (hvv : ∃ y n e, vv = .slice y n e) => read_bytes B vv k x3 m3 c3 body d 1 M w3 hk ⟨by omega, by omega⟩ hvv hb3 (by omega) hM3 hH3
    have HR := Lib.hid hRead
    have H3 := Lib.hid (And.intro hR3 (And.intro hv3 (And.intro hI3 (And.intro hgw3 hg3))))
    clear hb3 hR3 hv3 hg3 hH3 hM3 hI3 hgw3 hRead
    refine hK _ _ ?_
    clear hK K
    refine wpAnyIn_ready (rs := [3]) (by kernel_rfl) (by simp) ?_
    refine AllReadyIn.cons rfl (fun K hK => ?_) (AllReadyIn.nil)
    go_simp
    refine ⟨trivial, (callsIn_wide.2 (HR.out (.slice y N e) ⟨_, _, _, rfl⟩)).mono ?_⟩
    rintro e w4 ⟨h4, he4⟩
    rw [if_pos hko] at he4
    obtain ⟨x5, m5, c5, rfl, hO5⟩ := he4
    have hI4 := H3.out.2.2.1.keep h4
    have i0 := cell_of_row w4 _ 0 _ _ _ hI4
    have i1 := cell_of_row w4 _ 1 _ _ _ hI4
    have i2 := cell_of_row w4 _ 2 _ _ _ hI4
    have f0 := frozen_of_row w4 _ 0 _ _ hI4
    have f1 := frozen_of_row w4 _ 1 _ _ hI4
    have f2 := frozen_of_row w4 _ 2 _ _ hI4
    have hG := grown_set' (grown_set' (grown_set' (grown_refl w4 w.heap.size) 0 (.bool false)) 1 (.slice x5 m5 c5)) 2 (.slice none 0 0)
    have hs3 : w.heap.size + 1 ≤ w3.heap.size := by have h1 := H3.out.2.2.2.2.size; have h2 := HX.out.2.2.2.lt; omega
    have HE := Lib.hid (show Ow _ w.heap.size (.slice x5 m5 c5) body ∧ (∃ v2, RB _ R v2 d M ∧ Bt B _ v2 r2) ∧ w.grownBy _ (some R) from ⟨(hO5.kept hG (fun r e => by cases e; omega)).mono (by omega), ⟨_, (H3.out.1.keep h4).kept hG (fun e => by injection e; omega), (H3.out.2.1.new h4).far hG (by omega)⟩, grown_above (grown_then H3.out.2.2.2.1 h4) hG (Nat.le_refl _)⟩)
    clear hI4 hG hO5 h4 q0 q1 q2 r0 r1 r2'
    refine hK _ _ ?_
    clear hK K
    refine wpAnyIn_ready (rs := [4]) (by kernel_rfl) (by simp) ?_
    refine AllReadyIn.cons rfl (fun K hK => ?_) (AllReadyIn.nil)
    go_simp
    refine hK _ _ ?_
    clear hK K
    refine wpAnyIn_done (by kernel_rfl) ?_ _
    simp only [Exit.then]
    go_wp2_with fail
    exact bodyPost_ret (v := itB (.slice x5 m5 c5)) (by simp [results, Tryd.results35, go_sem, i0, i1, i2]) rfl ⟨_, _, _, rfl, HE.out⟩
  · go_simp
    refine ⟨trivial, (callsIn_wide.2 HC.out).mono ?_⟩
    rintro e w3 ⟨x3, m3, c3, rfl, hb3, ⟨v3, hR3, hv3⟩, hg3⟩
    have hH3 := HX.out.2.1.far (by omega) hg3
    have hM3 := HX.out.2.2.1.kept hg3 (fun e => by injection e; omega)
    have hI3 := HX.out.2.2.2.kept hg3 (fun e => by injection e; omega)
    have hgw3 := grown_then' (grown_of R HX.out.1) hg3
    obtain ⟨_, y3, e3, rfl, _⟩ := id hv3
    have q0 : w3.cell? ⟨R, 0, none⟩ = some (.slice y3 r2.length e3) := cell_of_row _ _ 0 _ _ _ hR3
    have q1 : w3.cell? ⟨R, 1, none⟩ = some (.int .i64 d) := cell_of_row _ _ 1 _ _ _ hR3
    have q2 : w3.cell? ⟨R, 2, none⟩ = some (.map (some M)) := cell_of_row _ _ 2 _ _ _ hR3
    have hRead := fun (vv : Value) (hvv : ∃ y n e, vv = .slice y n e) => read_bytes B vv k x3 m3 c3 body d 1 M w3 hk ⟨by omega, by omega⟩ hvv hb3 (by omega) hM3 hH3
    have HR := Lib.hid hRead
    have H3 := Lib.hid (And.intro hR3 (And.intro hv3 (And.intro hI3 (And.intro hgw3 hg3))))
    clear hb3 hR3 hv3 hg3 hH3 hM3 hI3 hgw3 hRead
    refine hK _ _ ?_
    clear hK K
    refine wpAnyIn_ready (rs := [0]) (by kernel_rfl) (by simp) ?_
    refine AllReadyIn.cons rfl (fun K hK => ?_) (AllReadyIn.nil)
    go_simp
    refine hK _ _ ?_
    clear hK K
    refine wpAnyIn_ready (rs := [3]) (by kernel_rfl) (by simp) ?_
    refine AllReadyIn.cons rfl (fun K hK => ?_) (AllReadyIn.nil)
    go_simp
    refine ⟨trivial, (callsIn_wide.2 (HR.out (.slice y3 r2.length e3) ⟨_, _, _, rfl⟩)).mono ?_⟩
    rintro e w4 ⟨h4, he4⟩
    rw [if_pos hko] at he4
    obtain ⟨x5, m5, c5, rfl, hO5⟩ := he4
    have hI4 := H3.out.2.2.1.keep h4
    have i0 := cell_of_row w4 _ 0 _ _ _ hI4
    have i1 := cell_of_row w4 _ 1 _ _ _ hI4
    have i2 := cell_of_row w4 _ 2 _ _ _ hI4
    have f0 := frozen_of_row w4 _ 0 _ _ hI4
    have f1 := frozen_of_row w4 _ 1 _ _ hI4
    have f2 := frozen_of_row w4 _ 2 _ _ hI4
    have hG := grown_set' (grown_set' (grown_set' (grown_refl w4 w.heap.size) 0 (.bool false)) 1 (.slice x5 m5 c5)) 2 (.slice none 0 0)
    have hs3 : w.heap.size + 1 ≤ w3.heap.size := by have h1 := H3.out.2.2.2.2.size; have h2 := HX.out.2.2.2.lt; omega
    have HE := Lib.hid (show Ow _ w.heap.size (.slice x5 m5 c5) body ∧ (∃ v2, RB _ R v2 d M ∧ Bt B _ v2 r2) ∧ w.grownBy _ (some R) from ⟨(hO5.kept hG (fun r e => by cases e; omega)).mono (by omega), ⟨_, (H3.out.1.keep h4).kept hG (fun e => by injection e; omega), (H3.out.2.1.new h4).far hG (by omega)⟩, grown_above (grown_then H3.out.2.2.2.1 h4) hG (Nat.le_refl _)⟩)
    clear hI4 hG hO5 h4 q0 q1 q2 r0 r1 r2'
    refine hK _ _ ?_
    clear hK K
    refine wpAnyIn_ready (rs := [4]) (by kernel_rfl) (by simp) ?_
    refine AllReadyIn.cons rfl (fun K hK => ?_) (AllReadyIn.nil)
    go_simp
    refine hK _ _ ?_
    clear hK K
    refine wpAnyIn_done (by kernel_rfl) ?_ _
    simp only [Exit.then]
    go_wp2_with fail
    exact bodyPost_ret (v := itB (.slice x5 m5 c5)) (by simp [results, Tryd.results35, go_sem, i0, i1, i2]) rfl ⟨_, _, _, rfl, HE.out⟩
set_option maxRecDepth 100000 in
set_option maxHeartbeats 4000000 in
theorem first1_cut (B R : Nat) (v : Value) (l : List Nat) (d : Int) (M : Nat) (w : World) (hR : RB w R v d M) (hv : Bt B w v l) (hB : B ≤ R) (hH : HD w) (hgR : 0 < R) (hM : KM w M) (_hMR : M ≠ R) (_hl : l.length ≤ 4096) (hcs : cutS l = none) :
    Calls Tryd.prog 35 #[.pointer (some ⟨R, 0, none⟩)] w fun e w' => e = .panicked [{ v := .iface 28 (.int .i64 160), recovered := false }] ∧ w.grownBy w' (some R) := by
  obtain ⟨_, y, e, rfl, _⟩ := id hv
  have hW := balloc (Below.refl w.heap.size w) (.cells #[.bool false, .slice none 0 0, .slice none 0 0] 25)
  have hI := Blk.new w 25 #[.bool false, .slice none 0 0, .slice none 0 0]
  have hRl := hR.lt
  obtain ⟨W1, hW1⟩ : ∃ W1, w.alloc (.cells #[.bool false, .slice none 0 0, .slice none 0 0] 25) = W1 := ⟨_, rfl⟩
  rw [hW1] at hW hI
  have hd0 : Below W1.heap.size W1 W1.drew := (Below.refl _ _).drew
  have hWd := bstep hW hd0
  have hRd := hR.keep hWd
  have hvd := hv.new hWd
  have hHd := hH.keep hWd
  have hMd := hM.keep hWd
  have hId := hI.keep hd0
  have hC := cut_any B R _ l d M W1.drew hRd hvd hB hHd hgR
  rw [hcs] at hC
  have HC := Lib.hid (hC.mono (R' := fun e w' => e = .panicked [{ v := .iface 28 (.int .i64 160), recovered := false }] ∧ W1.drew.grownBy w' (some R)) (fun e w' h => ⟨h.2, h.1⟩))
  have r0 : W1.drew.cell? ⟨R, 0, none⟩ = some (.slice y l.length e) := cell_of_row _ _ 0 _ _ _ hRd
  have r1 : W1.drew.cell? ⟨R, 1, none⟩ = some (.int .i64 d) := cell_of_row _ _ 1 _ _ _ hRd
  have r2' : W1.drew.cell? ⟨R, 2, none⟩ = some (.map (some M)) := cell_of_row _ _ 2 _ _ _ hRd
  have HX := Lib.hid (And.intro hWd (And.intro hHd (And.intro hMd hId)))
  clear hC hR hv hH hM hW hI hd0 hWd hRd hvd hHd hMd hId hcs
  obtain ⟨N, hN⟩ : ∃ N, l.length = N := ⟨_, rfl⟩
  rw [hN] at r0
  clear hN
  go_enter Tryd.func35, Tryd.ntmps35
  go_wp2_with fail
  refine (wpIn_wide (n := 20)).1 (wpIn_region_any (by kernel_rfl) ?_)
  refine wpAnyIn_take (i := 1) (v := ?vq1) rfl rfl (by kernel_rfl) (by kernel_rfl) (by kernel_rfl) (fun _ _ _ h => h) ⟨Or.inl ⟨by rfl, ?yq1⟩, fun _ => rfl⟩ ?rq1
  case yq1 => (intro w; go_simp <;> with_reducible rfl)
  refine wpAnyIn_ready (rs := [0, 2]) (by kernel_rfl) (by simp) ?_
  refine AllReadyIn.cons rfl (fun K hK => ?_) (AllReadyIn.cons rfl (fun K hK => ?_) (AllReadyIn.nil))
  · go_simp
    refine hK _ _ ?_
    clear hK K
    refine wpAnyIn_ready (rs := [2]) (by kernel_rfl) (by simp) ?_
    refine AllReadyIn.cons rfl (fun K hK => ?_) (AllReadyIn.nil)
    go_simp
    refine ⟨trivial, (callsIn_wide.2 HC.out).mono ?_⟩
    rintro e w3 ⟨rfl, hg3⟩
    exact ⟨rfl, rfl, grown_then' (grown_of R HX.out.1) hg3⟩
  · go_simp
    refine ⟨trivial, (callsIn_wide.2 HC.out).mono ?_⟩
    rintro e w3 ⟨rfl, hg3⟩
    exact ⟨rfl, rfl, grown_then' (grown_of R HX.out.1) hg3⟩
set_option maxRecDepth 100000 in
set_option maxHeartbeats 4000000 in
theorem first1_kind (B R : Nat) (v : Value) (l : List Nat) (d : Int) (M : Nat) (k : Nat) (body r2 : List Nat) (w : World) (hR : RB w R v d M) (hv : Bt B w v l) (hB : B ≤ R) (hH : HD w) (hgR : 0 < R) (hM : KM w M) (hMR : M ≠ R) (hl : l.length ≤ 4096) (hcs : cutS l = some (k, body, r2)) (hk : k = 0 ∨ k = 1) (hko : koL body ≠ k) :
    Calls Tryd.prog 35 #[.pointer (some ⟨R, 0, none⟩)] w fun e w' => e = .panicked [{ v := .iface 28 (.int .i64 160), recovered := false }] ∧ w.grownBy w' (some R) := by
  obtain ⟨_, y, e, rfl, _⟩ := id hv
  have hW := balloc (Below.refl w.heap.size w) (.cells #[.bool false, .slice none 0 0, .slice none 0 0] 25)
  have hI := Blk.new w 25 #[.bool false, .slice none 0 0, .slice none 0 0]
  have hRl := hR.lt
  obtain ⟨W1, hW1⟩ : ∃ W1, w.alloc (.cells #[.bool false, .slice none 0 0, .slice none 0 0] 25) = W1 := ⟨_, rfl⟩
  rw [hW1] at hW hI
  have hd0 : Below W1.heap.size W1 W1.drew := (Below.refl _ _).drew
  have hWd := bstep hW hd0
  have hRd := hR.keep hWd
  have hvd := hv.new hWd
  have hHd := hH.keep hWd
  have hMd := hM.keep hWd
  have hId := hI.keep hd0
  have hC := cut_any B R _ l d M W1.drew hRd hvd hB hHd hgR
  rw [hcs] at hC
  have HC := Lib.hid (hC.mono (R' := fun e w' => ∃ x m c, e = .returned (.agg #[.int .i64 k, .slice x m c]) ∧ Bt B w' (.slice x m c) body ∧ (∃ v2, RB w' R v2 d M ∧ Bt B w' v2 r2) ∧ W1.drew.grownBy w' (some R)) (fun e w' h => by obtain ⟨x, m, c, h1, h2, h3⟩ := h.2; exact ⟨x, m, c, h1, h2, h3, h.1⟩))
  have hbl := (cut_len hcs).1
  have r0 : W1.drew.cell? ⟨R, 0, none⟩ = some (.slice y l.length e) := cell_of_row _ _ 0 _ _ _ hRd
  have r1 : W1.drew.cell? ⟨R, 1, none⟩ = some (.int .i64 d) := cell_of_row _ _ 1 _ _ _ hRd
  have r2' : W1.drew.cell? ⟨R, 2, none⟩ = some (.map (some M)) := cell_of_row _ _ 2 _ _ _ hRd
  have HX := Lib.hid (And.intro hWd (And.intro hHd (And.intro hMd hId)))
  clear hC hR hv hH hM hW hI hd0 hWd hRd hvd hHd hMd hId hcs
  obtain ⟨N, hN⟩ : ∃ N, l.length = N := ⟨_, rfl⟩
  rw [hN] at r0
  clear hN
  go_enter Tryd.func35, Tryd.ntmps35
  go_wp2_with fail
  refine (wpIn_wide (n := 20)).1 (wpIn_region_any (by kernel_rfl) ?_)
  refine wpAnyIn_take (i := 1) (v := ?vq1) rfl rfl (by kernel_rfl) (by kernel_rfl) (by kernel_rfl) (fun _ _ _ h => h) ⟨Or.inl ⟨by rfl, ?yq1⟩, fun _ => rfl⟩ ?rq1
  case yq1 => (intro w; go_simp <;> with_reducible rfl)
  refine wpAnyIn_ready (rs := [0, 2]) (by kernel_rfl) (by simp) ?_
  refine AllReadyIn.cons rfl (fun K hK => ?_) (AllReadyIn.cons rfl (fun K hK => ?_) (AllReadyIn.nil))
  · go_simp
    refine hK _ _ ?_
    clear hK K
    refine wpAnyIn_ready (rs := [2]) (by kernel_rfl) (by simp) ?_
    refine AllReadyIn.cons rfl (fun K hK => ?_) (AllReadyIn.nil)
    go_simp
    refine ⟨trivial, (callsIn_wide.2 HC.out).mono ?_⟩
    rintro e w3 ⟨x3, m3, c3, rfl, hb3, ⟨v3, hR3, hv3⟩, hg3⟩
    have hH3 := HX.out.2.1.far (by omega) hg3
    have hM3 := HX.out.2.2.1.kept hg3 (fun e => by injection e; omega)
    have hI3 := HX.out.2.2.2.kept hg3 (fun e => by injection e; omega)
    have hgw3 := grown_then' (grown_of R HX.out.1) hg3
    obtain ⟨_, y3, e3, rfl, _⟩ := id hv3
    have q0 : w3.cell? ⟨R, 0, none⟩ = some (.slice y3 r2.length e3) := cell_of_row _ _ 0 _ _ _ hR3
    have q1 : w3.cell? ⟨R, 1, none⟩ = some (.int .i64 d) := cell_of_row _ _ 1 _ _ _ hR3
    have q2 : w3.cell? ⟨R, 2, none⟩ = some (.map (some M)) := cell_of_row _ _ 2 _ _ _ hR3
    have hRead := fun (vv : Value) (hvv : ∃ y n e, vv = .slice y n e) => read_bytes B vv k x3 m3 c3 body d 1 M w3 hk ⟨by omega, by omega⟩ hvv hb3 (by omega) hM3 hH3
    have HR := Lib.hid hRead
    have H3 := Lib.hid (And.intro hR3 (And.intro hv3 (And.intro hI3 (And.intro hgw3 hg3))))
    clear hb3 hR3 hv3 hg3 hH3 hM3 hI3 hgw3 hRead
    refine hK _ _ ?_
    clear hK K
    refine wpAnyIn_ready (rs := [3]) (by kernel_rfl) (by simp) ?_
    refine AllReadyIn.cons rfl (fun K hK => ?_) (AllReadyIn.nil)
    go_simp
    refine ⟨trivial, (callsIn_wide.2 (HR.out (.slice y N e) ⟨_, _, _, rfl⟩)).mono ?_⟩
    rintro e w4 ⟨h4, he4⟩
    rw [if_neg hko] at he4
    subst he4
    exact ⟨rfl, rfl, grown_then H3.out.2.2.2.1 h4⟩
  · go_simp
    refine ⟨trivial, (callsIn_wide.2 HC.out).mono ?_⟩
    rintro e w3 ⟨x3, m3, c3, rfl, hb3, ⟨v3, hR3, hv3⟩, hg3⟩
    have hH3 := HX.out.2.1.far (by omega) hg3
    have hM3 := HX.out.2.2.1.kept hg3 (fun e => by injection e; omega)
    have hI3 := HX.out.2.2.2.kept hg3 (fun e => by injection e; omega)
    have hgw3 := grown_then' (grown_of R HX.out.1) hg3
    obtain ⟨_, y3, e3, rfl, _⟩ := id hv3
    have q0 : w3.cell? ⟨R, 0, none⟩ = some (.slice y3 r2.length e3) := cell_of_row _ _ 0 _ _ _ hR3
    have q1 : w3.cell? ⟨R, 1, none⟩ = some (.int .i64 d) := cell_of_row _ _ 1 _ _ _ hR3
    have q2 : w3.cell? ⟨R, 2, none⟩ = some (.map (some M)) := cell_of_row _ _ 2 _ _ _ hR3
    have hRead := fun (vv : Value) (hvv : ∃ y n e, vv = .slice y n e) => read_bytes B vv k x3 m3 c3 body d 1 M w3 hk ⟨by omega, by omega⟩ hvv hb3 (by omega) hM3 hH3
    have HR := Lib.hid hRead
    have H3 := Lib.hid (And.intro hR3 (And.intro hv3 (And.intro hI3 (And.intro hgw3 hg3))))
    clear hb3 hR3 hv3 hg3 hH3 hM3 hI3 hgw3 hRead
    refine hK _ _ ?_
    clear hK K
    refine wpAnyIn_ready (rs := [0]) (by kernel_rfl) (by simp) ?_
    refine AllReadyIn.cons rfl (fun K hK => ?_) (AllReadyIn.nil)
    go_simp
    refine hK _ _ ?_
    clear hK K
    refine wpAnyIn_ready (rs := [3]) (by kernel_rfl) (by simp) ?_
    refine AllReadyIn.cons rfl (fun K hK => ?_) (AllReadyIn.nil)
    go_simp
    refine ⟨trivial, (callsIn_wide.2 (HR.out (.slice y3 r2.length e3) ⟨_, _, _, rfl⟩)).mono ?_⟩
    rintro e w4 ⟨h4, he4⟩
    rw [if_neg hko] at he4
    subst he4
    exact ⟨rfl, rfl, grown_then H3.out.2.2.2.1 h4⟩
end Go.Proofs.YtjmfnafbjfceoaaDoor

/- item: First and Decode, of bytes that begin with an item of bytes, or with none. -/
namespace Go.Proofs.YtjmfnafbjfceoaaDoor
open Go.RowKit Go.Shelf
attribute [local irreducible] lb wdG byA byC heL nuL
set_option maxRecDepth 100000 in
set_option maxHeartbeats 2000000 in
theorem first_long (B : Nat) (v : Value) (l : List Nat) (w : World) (hv : Bt B w v l) (hl : 4096 < l.length) :
    Calls Tryd.prog 16 #[v] w fun e w' => e = .returned (.tuple #[itW false none 0 0 none 0 0, .int .i64 0, .int .i64 3]) ∧ Below w.heap.size w w' := by
  obtain ⟨_, x, c, rfl, _⟩ := hv
  have g : (4096 : Int) < (l.length : Int) := by omega
  have hW := balloc (Below.refl w.heap.size w) (.cells #[.bool false, .slice none 0 0, .slice none 0 0] 25)
  obtain ⟨q, hq⟩ : ∃ q, l.length = q := ⟨_, rfl⟩
  rw [hq] at g ⊢
  clear hq hl
  go_enter Tryd.func16, Tryd.ntmps16
  go_wp2_with fail
  exact bodyPost_ret (v := .tuple #[itW false none 0 0 none 0 0, .int .i64 0, .int .i64 3]) (by simp [results, Tryd.results16, go_sem]) rfl ⟨rfl, hW⟩

set_option maxRecDepth 100000 in
set_option maxHeartbeats 4000000 in
theorem first_ret (B : Nat) (v : Value) (l : List Nat) (k : Nat) (body r2 : List Nat) (w : World) (hv : Bt B w v l) (hB : B ≤ w.heap.size) (hH : HD w) (hl : l.length ≤ 4096) (hcs : cutS l = some (k, body, r2)) (hk : k = 0 ∨ k = 1) (hko : koL body = k) :
    Calls Tryd.prog 16 #[v] w fun e w' => ∃ x m c, e = .returned (.tuple #[itB (.slice x m c), .int .i64 (l.length - r2.length : Nat), .int .i64 0]) ∧ Ow w' w.heap.size (.slice x m c) body ∧ Below w.heap.size w w' := by
  have hmf : ∀ (fn : Fn) (first cap : Array Value) (w : World), (Instr.makeFunc fn first cap).run Tryd.prog w = .ok (.func fn first cap) w := fun _ _ _ _ => rfl
  obtain ⟨_, x, c, rfl, _⟩ := id hv
  have g : ¬ (4096 : Int) < (l.length : Int) := by omega
  have hA := Blk.new w 25 #[.bool false, .slice none 0 0, .slice none 0 0]
  have hW := balloc (Below.refl w.heap.size w) (.cells #[.bool false, .slice none 0 0, .slice none 0 0] 25)
  have HX := Lib.hid (And.intro hA (And.intro hW (And.intro (hv.new hW) (hH.keep hW))))
  have hgl := hH.lt
  have hrl := (cut_len hcs).2
  have hsub : IntKind.i64.wrap ((l.length : Int) - (r2.length : Int)) = ((l.length - r2.length : Nat) : Int) := (IntWalk.i64_in _ (by omega)).trans (by omega)
  clear hA hW hv hH
  obtain ⟨q, hq⟩ : ∃ q, l.length = q := ⟨_, rfl⟩
  have HQ := Lib.hid hq
  rw [hq] at g hl HX hrl hsub ⊢
  clear hq
  go_enter Tryd.func16, Tryd.ntmps16
  go_wp2_with fail
  refine (kinds_any _).mono ?_
  rintro e w1 ⟨M, rfl, hMw, hM, h1⟩
  obtain ⟨hA, hW, hb, hH⟩ := HX.out
  have hst := balloc (Below.refl w1.heap.size w1) (.cells #[.slice x q c, .int .i64 0, .map (some M)] 68)
  have hRb := Blk.new w1 68 #[.slice x q c, .int .i64 0, .map (some M)]
  have hA1 := (hA.keep h1).keep hst
  have hW1 := bstep (bstep hW h1) hst
  have hb1 := (hb.new h1).new hst
  have hH1 := (hH.keep h1).keep hst
  have hM1 := hM.keep hst
  have hMl : M < w1.heap.size := (Array.getElem?_eq_some_iff.1 hM).1
  have hwl : w.heap.size < w1.heap.size := by have := (hA.keep h1).lt; exact this
  obtain ⟨W2, hW2⟩ : ∃ W2, w1.alloc (.cells #[.slice x q c, .int .i64 0, .map (some M)] 68) = W2 := ⟨_, rfl⟩
  rw [hW2] at hst hRb hA1 hW1 hb1 hH1 hM1
  have hRl : w1.heap.size < W2.heap.size := hRb.lt
  obtain ⟨R, hR⟩ : ∃ R, w1.heap.size = R := ⟨_, rfl⟩
  rw [hR] at hRb hRl hMl hwl
  have hRB : RB W2 R (.slice x q c) 0 M := hRb
  have hAtt := attempti_ret R W2 hRl (fun v X => (∃ x m c, v = itB (.slice x m c) ∧ Ow X (W2.heap.size + 2) (.slice x m c) body) ∧ ∃ v2, RB X R v2 0 M ∧ Bt B X v2 r2)
    (fun wr hwr hsz => ((first1_ret B R _ l 0 M k body r2 wr (hRB.keep hwr) (hb1.new hwr) (by omega) (hH1.keep hwr) (by omega) (hM1.keep hwr) (by omega) (by rw [HQ.out]; exact hl) hcs hk hko).mono (by
      rintro e w' ⟨x, m, c, rfl, hO, hr, hg⟩
      exact ⟨false, x, m, c, none, 0, 0, rfl, ⟨⟨x, m, c, rfl, hO.mono hsz⟩, hr⟩, hg⟩)))
    (fun v X Y g h hg he => by
      obtain ⟨⟨x, m, c, hv, hO⟩, v2, h2, h3⟩ := h
      have hge : W2.heap.size ≤ g ∧ g < W2.heap.size + 2 := by omega
      exact ⟨⟨x, m, c, hv, hO.kept hg (fun r e => by cases e; omega)⟩, v2, h2.kept hg (fun e => by injection e; omega), h3.far hg (by omega)⟩)
  have HAT := Lib.hid hAtt
  have H2 := Lib.hid (And.intro hA1 (And.intro hW1 hRl))
  clear hAtt hA hW hb hH hst hRb hA1 hW1 hb1 hH1 hM1 hRB hM h1 HX
  go_wp2_with fail
  refine HAT.out.mono ?_
  rintro e w3 ⟨b, x3, m3, c3, y3, n3, d3, rfl, ⟨⟨x4, m4, c4, heq, hO⟩, v2, hRB, hv2⟩, hg⟩
  cases heq
  have hst := balloc (Below.refl w3.heap.size w3) (.cells #[.bool false, .slice x3 m3 c3, .slice none 0 0] 25)
  have hT := Blk.new w3 25 #[.bool false, .slice x3 m3 c3, .slice none 0 0]
  have hA3 := (H2.out.1.kept hg (fun e => by injection e; omega)).keep hst
  have hR3 := hRB.keep hst
  have hgw : Below w.heap.size w w3 := H2.out.2.1.grown hg H2.out.2.1.size (fun k e => by cases e; omega)
  have hW3 := bstep hgw hst
  have hO3 := (hO.new hst).mono (show w.heap.size + 1 ≤ W2.heap.size + 2 by omega)
  obtain ⟨_, y2, e2, rfl, _⟩ := hv2
  obtain ⟨p, hp⟩ : ∃ p, r2.length = p := ⟨_, rfl⟩
  rw [hp] at hsub hrl hR3
  have hHP := Lib.hid hp
  have H3 := Lib.hid (And.intro hT (And.intro hA3 (And.intro hR3 (And.intro hW3 hO3))))
  clear hst hT hA3 hR3 hgw hW3 hO3 hO hRB hg H2 HAT hp hR hW2
  clear hB hcs hk hko hrl
  go_wp2_with fail
  have hW4 : w3.alloc (.cells #[.bool false, .slice x3 m3 c3, .slice none 0 0] 25) = w3.alloc (.cells #[.bool false, .slice x3 m3 c3, .slice none 0 0] 25) := rfl
  obtain ⟨W4, hWW⟩ : ∃ W4, w3.alloc (.cells #[.bool false, .slice x3 m3 c3, .slice none 0 0] 25) = W4 := ⟨_, rfl⟩
  rw [hWW] at H3 ⊢
  clear hWW hW4
  generalize w3.heap.size = gt at H3 ⊢
  obtain ⟨hT, hA, hRR, hW, hO⟩ := H3.out
  have hdr : Below W4.heap.size W4 W4.drew := (Below.refl _ _).drew
  have t0 : W4.drew.cell? ⟨gt, 0, none⟩ = some (.bool false) := cell_of_row _ _ 0 _ _ _ (hT.keep hdr)
  have t1 : W4.drew.cell? ⟨gt, 1, none⟩ = some (.slice x3 m3 c3) := cell_of_row _ _ 1 _ _ _ (hT.keep hdr)
  have t2 : W4.drew.cell? ⟨gt, 2, none⟩ = some (.slice none 0 0) := cell_of_row _ _ 2 _ _ _ (hT.keep hdr)
  have u0 : W4.drew.cell? ⟨R, 0, none⟩ = some (.slice y2 p e2) := cell_of_row _ _ 0 _ _ _ (hRR.keep hdr)
  have a0 : W4.drew.cell? ⟨w.heap.size, 0, none⟩ = some (.bool false) := cell_of_row _ _ 0 _ _ _ (hA.keep hdr)
  have a1 : W4.drew.cell? ⟨w.heap.size, 1, none⟩ = some (.slice none 0 0) := cell_of_row _ _ 1 _ _ _ (hA.keep hdr)
  have a2 : W4.drew.cell? ⟨w.heap.size, 2, none⟩ = some (.slice none 0 0) := cell_of_row _ _ 2 _ _ _ (hA.keep hdr)
  have f0 : W4.drew.frozen? ⟨w.heap.size, 0, none⟩ = false := frozen_of_row _ _ 0 _ _ (hA.keep hdr)
  have f1 : W4.drew.frozen? ⟨w.heap.size, 1, none⟩ = false := frozen_of_row _ _ 1 _ _ (hA.keep hdr)
  have f2 : W4.drew.frozen? ⟨w.heap.size, 2, none⟩ = false := frozen_of_row _ _ 2 _ _ (hA.keep hdr)
  have v0 : W4.cell? ⟨R, 0, none⟩ = some (.slice y2 p e2) := cell_of_row _ _ 0 _ _ _ hRR
  have s0 : W4.cell? ⟨gt, 0, none⟩ = some (.bool false) := cell_of_row _ _ 0 _ _ _ hT
  have s1 : W4.cell? ⟨gt, 1, none⟩ = some (.slice x3 m3 c3) := cell_of_row _ _ 1 _ _ _ hT
  have s2 : W4.cell? ⟨gt, 2, none⟩ = some (.slice none 0 0) := cell_of_row _ _ 2 _ _ _ hT
  have b0 : W4.cell? ⟨w.heap.size, 0, none⟩ = some (.bool false) := cell_of_row _ _ 0 _ _ _ hA
  have g0 : W4.frozen? ⟨w.heap.size, 0, none⟩ = false := frozen_of_row _ _ 0 _ _ hA
  have b1 : W4.cell? ⟨w.heap.size, 1, none⟩ = some (.slice none 0 0) := cell_of_row _ _ 1 _ _ _ hA
  have g1 : W4.frozen? ⟨w.heap.size, 1, none⟩ = false := frozen_of_row _ _ 1 _ _ hA
  have b2 : W4.cell? ⟨w.heap.size, 2, none⟩ = some (.slice none 0 0) := cell_of_row _ _ 2 _ _ _ hA
  have g2 : W4.frozen? ⟨w.heap.size, 2, none⟩ = false := frozen_of_row _ _ 2 _ _ hA
  have hG := grown_set' (grown_set' (grown_set' (grown_refl W4.drew w.heap.size) 0 (.bool false)) 1 (.slice x3 m3 c3)) 2 (.slice none 0 0)
  have HE := Lib.hid (And.intro (((hO.new hdr).kept hG (fun r e => by cases e; omega)).mono (show w.heap.size ≤ w.heap.size + 1 by omega)) (step_world (bstep hW hdr) hG (Nat.le_refl _) (by omega)))
  clear hT hA hRR hW hO hdr hG H3
  go_region
  all_goals
    go_wp2_with fail
    exact bodyPost_ret (v := .tuple #[itB (.slice x3 m3 c3), .int .i64 ((q - p : Nat) : Int), .int .i64 0]) (by simp [results, Tryd.results16, go_sem, b0, b1, b2]) rfl ⟨_, _, _, by rw [hHP.out], HE.out⟩

set_option maxRecDepth 100000 in
set_option maxHeartbeats 4000000 in
theorem first_err (B : Nat) (v : Value) (l : List Nat) (w : World) (hv : Bt B w v l) (hB : B ≤ w.heap.size) (hH : HD w) (hl : l.length ≤ 4096)
    (hcs : cutS l = none ∨ ∃ k body r2, cutS l = some (k, body, r2) ∧ (k = 0 ∨ k = 1) ∧ koL body ≠ k) :
    Calls Tryd.prog 16 #[v] w fun e w' => e = .returned (.tuple #[itW false none 0 0 none 0 0, .int .i64 0, .int .i64 160]) ∧ Below w.heap.size w w' := by
  have hmf : ∀ (fn : Fn) (first cap : Array Value) (w : World), (Instr.makeFunc fn first cap).run Tryd.prog w = .ok (.func fn first cap) w := fun _ _ _ _ => rfl
  obtain ⟨_, x, c, rfl, _⟩ := id hv
  have g : ¬ (4096 : Int) < (l.length : Int) := by omega
  have hA := Blk.new w 25 #[.bool false, .slice none 0 0, .slice none 0 0]
  have hW := balloc (Below.refl w.heap.size w) (.cells #[.bool false, .slice none 0 0, .slice none 0 0] 25)
  have HX := Lib.hid (And.intro hA (And.intro hW (And.intro (hv.new hW) (hH.keep hW))))
  have hgl := hH.lt
  clear hA hW hv hH
  obtain ⟨q, hq⟩ : ∃ q, l.length = q := ⟨_, rfl⟩
  have HQ := Lib.hid hq
  have HCS := Lib.hid hcs
  rw [hq] at g hl HX ⊢
  clear hq hcs
  go_enter Tryd.func16, Tryd.ntmps16
  go_wp2_with fail
  refine (kinds_any _).mono ?_
  rintro e w1 ⟨M, rfl, hMw, hM, h1⟩
  obtain ⟨hA, hW, hb, hH⟩ := HX.out
  have hst := balloc (Below.refl w1.heap.size w1) (.cells #[.slice x q c, .int .i64 0, .map (some M)] 68)
  have hRb := Blk.new w1 68 #[.slice x q c, .int .i64 0, .map (some M)]
  have hA1 := (hA.keep h1).keep hst
  have hW1 := bstep (bstep hW h1) hst
  have hb1 := (hb.new h1).new hst
  have hH1 := (hH.keep h1).keep hst
  have hM1 := hM.keep hst
  have hMl : M < w1.heap.size := (Array.getElem?_eq_some_iff.1 hM).1
  have hwl : w.heap.size < w1.heap.size := by have := (hA.keep h1).lt; exact this
  obtain ⟨W2, hW2⟩ : ∃ W2, w1.alloc (.cells #[.slice x q c, .int .i64 0, .map (some M)] 68) = W2 := ⟨_, rfl⟩
  rw [hW2] at hst hRb hA1 hW1 hb1 hH1 hM1
  have hRl : w1.heap.size < W2.heap.size := hRb.lt
  obtain ⟨R, hR⟩ : ∃ R, w1.heap.size = R := ⟨_, rfl⟩
  rw [hR] at hRb hRl hMl hwl
  have hRB : RB W2 R (.slice x q c) 0 M := hRb
  have hAtt := attempti_gives R 160 W2 hRl (fun wr hwr hsz => by
    rcases HCS.out with h | ⟨k, body, r2, h1, h2, h3⟩
    · exact first1_cut B R _ l 0 M wr (hRB.keep hwr) (hb1.new hwr) (by omega) (hH1.keep hwr) (by omega) (hM1.keep hwr) (by omega) (by rw [HQ.out]; exact hl) h
    · exact first1_kind B R _ l 0 M k body r2 wr (hRB.keep hwr) (hb1.new hwr) (by omega) (hH1.keep hwr) (by omega) (hM1.keep hwr) (by omega) (by rw [HQ.out]; exact hl) h1 h2 h3)
  have HAT := Lib.hid hAtt
  have H2 := Lib.hid (And.intro hA1 (And.intro hW1 hRl))
  clear hAtt hA hW hb hH hst hRb hA1 hW1 hb1 hH1 hM1 hRB hM h1 HX
  go_wp2_with fail
  refine HAT.out.mono ?_
  rintro e w3 ⟨rfl, hg⟩
  have hst := balloc (Below.refl w3.heap.size w3) (.cells #[.bool false, .slice none 0 0, .slice none 0 0] 25)
  have hA3 := (H2.out.1.kept hg (fun e => by injection e; omega)).keep hst
  have hgw : Below w.heap.size w w3 := H2.out.2.1.grown hg H2.out.2.1.size (fun k e => by cases e; omega)
  have hW3 := bstep hgw hst
  have a0 := cell_of_row _ _ 0 _ _ _ hA3
  have a1 := cell_of_row _ _ 1 _ _ _ hA3
  have a2 := cell_of_row _ _ 2 _ _ _ hA3
  have f0 := frozen_of_row _ _ 0 _ _ hA3
  have f1 := frozen_of_row _ _ 1 _ _ hA3
  have f2 := frozen_of_row _ _ 2 _ _ hA3
  have hG := grown_set' (grown_set' (grown_set' (grown_refl (w3.alloc (.cells #[.bool false, .slice none 0 0, .slice none 0 0] 25)) w.heap.size) 0 (.bool false)) 1 (.slice none 0 0)) 2 (.slice none 0 0)
  have HE := Lib.hid (step_world hW3 hG (Nat.le_refl _) (by omega))
  clear hst hA3 hgw hW3 hG hg H2 HAT hR hW2
  go_wp2_with fail
  exact bodyPost_ret (v := .tuple #[itW false none 0 0 none 0 0, .int .i64 0, .int .i64 160]) (by simp [results, Tryd.results16, go_sem, a0, a1, a2]) rfl ⟨rfl, HE.out⟩
end Go.Proofs.YtjmfnafbjfceoaaDoor

/- item: Decode. -/
namespace Go.Proofs.YtjmfnafbjfceoaaDoor
open Go.RowKit Go.Shelf
attribute [local irreducible] lb wdG byA byC heL nuL
set_option maxRecDepth 100000 in
set_option maxHeartbeats 4000000 in
theorem decode_not (no n : Nat) (y : Option Addr) (q e : Nat) (w : World)
    (hno : no ≠ 0 ∨ n < q)
    (hF : ∀ X, Below w.heap.size w X → Calls Tryd.prog 16 #[.slice y q e] X fun e w' => ∃ b x1 m1 c1 x2 m2 c2, e = .returned (.tuple #[itW b x1 m1 c1 x2 m2 c2, .int .i64 n, .int .i64 no]) ∧ Below X.heap.size X w') :
    Calls Tryd.prog 13 #[.slice y q e] w fun e w' => e = .returned (.tuple #[itW false none 0 0 none 0 0, .int .i64 (if no = 0 then 160 else no : Nat)]) ∧ Below w.heap.size w w' := by
  have hA := Blk.new w 25 #[.bool false, .slice none 0 0, .slice none 0 0]
  have hW := balloc (Below.refl w.heap.size w) (.cells #[.bool false, .slice none 0 0, .slice none 0 0] 25)
  have hC := Lib.hid (hF _ hW)
  have HX := Lib.hid (And.intro hA hW)
  obtain ⟨nn, hnn⟩ : ∃ nn, (if no = 0 then 160 else no) = nn := ⟨_, rfl⟩
  have HN := Lib.hid hnn
  rw [hnn]
  clear hA hW hF hnn
  go_enter Tryd.func13, Tryd.ntmps13
  go_wp2_with fail
  refine hC.out.mono ?_
  rintro e w3 ⟨b, x1, m1, c1, x2, m2, c2, rfl, h1⟩
  have hst := balloc (Below.refl w3.heap.size w3) (.cells #[.bool b, .slice x1 m1 c1, .slice x2 m2 c2] 25)
  have hA3 := (HX.out.1.keep h1).keep hst
  have hW3 := bstep (bstep HX.out.2 h1) hst
  have a0 := cell_of_row _ _ 0 _ _ _ hA3
  have a1 := cell_of_row _ _ 1 _ _ _ hA3
  have a2 := cell_of_row _ _ 2 _ _ _ hA3
  have f0 := frozen_of_row _ _ 0 _ _ hA3
  have f1 := frozen_of_row _ _ 1 _ _ hA3
  have f2 := frozen_of_row _ _ 2 _ _ hA3
  have hG := grown_set' (grown_set' (grown_set' (grown_refl (w3.alloc (.cells #[.bool b, .slice x1 m1 c1, .slice x2 m2 c2] 25)) w.heap.size) 0 (.bool false)) 1 (.slice none 0 0)) 2 (.slice none 0 0)
  have HE := Lib.hid (step_world hW3 hG (Nat.le_refl _) (by omega))
  clear hst hA3 hW3 hG h1 HX hC
  by_cases h0 : no = 0
  · have hlt : (n : Int) < (q : Int) := by omega
    have hlt' : n < q := by omega
    have hnn : nn = 160 := by rw [← HN.out, if_pos h0]
    have HNN := Lib.hid hnn
    subst h0
    clear hnn hno
    go_wp2_with fail
    exact bodyPost_ret (v := .tuple #[itW false none 0 0 none 0 0, .int .i64 160]) (by simp [results, Tryd.results13, go_sem, a0, a1, a2]) rfl ⟨by rw [HNN.out]; rfl, HE.out⟩
  · have hne : ((no : Int) != 0) = true := by simp; omega
    have hnn : nn = no := by rw [← HN.out, if_neg h0]
    have HNN := Lib.hid hnn
    clear hnn hno h0
    go_wp2_with fail
    exact bodyPost_ret (v := .tuple #[itW false none 0 0 none 0 0, .int .i64 (no : Nat)]) (by simp [results, Tryd.results13, go_sem, a0, a1, a2]) rfl ⟨by rw [HNN.out], HE.out⟩

/-- Decode of bytes that begin with an item of bytes that is not all of them, or with none. -/
theorem decode_short (B : Nat) (v : Value) (l : List Nat) (k : Nat) (body r2 : List Nat) (w : World) (hv : Bt B w v l) (hB : B ≤ w.heap.size) (hH : HD w) (hl : l.length ≤ 4096) (hcs : cutS l = some (k, body, r2)) (hk : k = 0 ∨ k = 1) (hko : koL body = k) (hr : r2 ≠ []) :
    Calls Tryd.prog 13 #[v] w fun e w' => e = .returned (.tuple #[itW false none 0 0 none 0 0, .int .i64 160]) ∧ Below w.heap.size w w' := by
  obtain ⟨_, y, e, rfl, _⟩ := id hv
  have hr0 : 0 < r2.length := List.length_pos_iff.2 hr
  have hle := (cut_len hcs).2
  exact decode_not 0 (l.length - r2.length) y l.length e w (.inr (by omega)) (fun X hX => (first_ret B _ l k body r2 X (hv.new hX) (Nat.le_trans hB hX.size) (hH.keep hX) hl hcs hk hko).mono (by
    rintro e w' ⟨x, m, c, rfl, _, h⟩
    exact ⟨false, x, m, c, none, 0, 0, rfl, h⟩))
theorem decode_err (B : Nat) (v : Value) (l : List Nat) (w : World) (hv : Bt B w v l) (hB : B ≤ w.heap.size) (hH : HD w) (hl : l.length ≤ 4096)
    (hcs : cutS l = none ∨ ∃ k body r2, cutS l = some (k, body, r2) ∧ (k = 0 ∨ k = 1) ∧ koL body ≠ k) :
    Calls Tryd.prog 13 #[v] w fun e w' => e = .returned (.tuple #[itW false none 0 0 none 0 0, .int .i64 160]) ∧ Below w.heap.size w w' := by
  obtain ⟨_, y, e, rfl, _⟩ := id hv
  exact decode_not 160 0 y l.length e w (.inl (by omega)) (fun X hX => (first_err B _ l X (hv.new hX) (Nat.le_trans hB hX.size) (hH.keep hX) hl hcs).mono fun e w' h => ⟨_, _, _, _, _, _, _, h⟩)
theorem decode_long (B : Nat) (v : Value) (l : List Nat) (w : World) (hv : Bt B w v l) (hl : 4096 < l.length) :
    Calls Tryd.prog 13 #[v] w fun e w' => e = .returned (.tuple #[itW false none 0 0 none 0 0, .int .i64 3]) ∧ Below w.heap.size w w' := by
  obtain ⟨_, y, e, rfl, _⟩ := id hv
  exact decode_not 3 0 y l.length e w (.inl (by omega)) (fun X hX => (first_long B _ l X (hv.new hX) hl).mono fun e w' h => ⟨_, _, _, _, _, _, _, h⟩)
end Go.Proofs.YtjmfnafbjfceoaaDoor

