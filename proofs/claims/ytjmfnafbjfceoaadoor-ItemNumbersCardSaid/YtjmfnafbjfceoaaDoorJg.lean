/- item: the reader's bytes and read, of pieces that are bytes. -/
import Derived.Test.YtjmfnafbjfceoaaDoorJf
namespace Go.Proofs.YtjmfnafbjfceoaaDoor
open Go.RowKit Go.Shelf
attribute [local irreducible] lb wdG byA byC heL nuL
set_option maxRecDepth 100000 in
set_option maxHeartbeats 4000000 in
theorem rbytes_item (B : Nat) (v : Value) (l : List Nat) (d : Int) (M : Nat) (w : World) (hv : Bt B w v l) (hl : l.length ≤ 100000) :
    Calls Tryd.prog 53 #[.agg #[v, .int .i64 d, .map (some M)]] w fun e w' => ∃ x m c, e = .returned (itB (.slice x m c)) ∧ Ow w' w.heap.size (.slice x m c) l ∧ Below w.heap.size w w' := by
  obtain ⟨_, x0, c0, rfl, _⟩ := id hv
  have hI := Blk.newS w (.cells #[.slice x0 l.length c0, .int .i64 d, .map (some M)] 68) 25 #[.bool false, .slice none 0 0, .slice none 0 0]
  have hW := balloc (balloc (Below.refl w.heap.size w) (.cells #[.slice x0 l.length c0, .int .i64 d, .map (some M)] 68)) (.cells #[.bool false, .slice none 0 0, .slice none 0 0] 25)
  have hC := Lib.hid (clone_ow B _ l _ (hv.new hW) hl)
  have HW := Lib.hid (And.intro hI hW)
  clear hI hW hv
  obtain ⟨q, hq⟩ : ∃ q, l.length = q := ⟨_, rfl⟩
  rw [hq] at hC HW hl ⊢
  clear hq
  go_enter Tryd.func53, Tryd.ntmps53
  go_wp2_with fail
  refine hC.out.mono ?_
  rintro e w1 ⟨x, m, c, rfl, hO, h1⟩
  have hI1 := HW.out.1.keep h1
  have k0 := cell_of_row w1 _ 0 _ _ _ hI1
  have k1 := cell_of_row w1 _ 1 _ _ _ hI1
  have k2 := cell_of_row w1 _ 2 _ _ _ hI1
  have f0 := frozen_of_row w1 _ 0 _ _ hI1
  have f1 := frozen_of_row w1 _ 1 _ _ hI1
  have f2 := frozen_of_row w1 _ 2 _ _ hI1
  have hG := grown_set' (grown_set' (grown_set' (grown_refl w1 (w.heap.size + 1)) 0 (.bool false)) 1 (.slice x m c)) 2 (.slice none 0 0)
  have hW1 := bstep HW.out.2 h1
  have hsz : w.heap.size + 2 ≤ ((w.alloc (.cells #[.slice x0 q c0, .int .i64 d, .map (some M)] 68)).alloc (.cells #[.bool false, .slice none 0 0, .slice none 0 0] 25)).heap.size := by simp
  have HF := Lib.hid (And.intro ((hO.kept hG (fun r e => by cases e; omega)).mono (show w.heap.size ≤ _ by omega)) (step_world hW1 hG (Nat.le_refl _) (by omega)))
  clear hI1 hG hW1 hO h1 HW hC
  go_wp2_with fail
  exact bodyPost_ret (v := itB (.slice x m c)) (by simp [results, Tryd.results53, go_sem, k0, k1, k2]) rfl ⟨_, _, _, rfl, HF.out⟩

/-- What read comes to. -/
def ReP (k : Nat) (l : List Nat) (w : World) (e : Ending) (w' : World) : Prop := Below w.heap.size w w' ∧ (if koL l = k then ∃ x m c, e = .returned (itB (.slice x m c)) ∧ Ow w' w.heap.size (.slice x m c) l else e = .panicked [{ v := .iface 28 (.int .i64 160), recovered := false }])
set_option maxRecDepth 100000 in
set_option maxHeartbeats 4000000 in
theorem read_bytes (B : Nat) (v : Value) (k : Nat) (x : Option Addr) (m c : Nat) (l : List Nat) (d d2 : Int) (M : Nat) (w : World) (hk : k = 0 ∨ k = 1) (hd : 0 ≤ d2 ∧ d2 ≤ 8) (hv0 : ∃ y n e, v = .slice y n e) (hv : Bt B w (.slice x m c) l) (hl : l.length ≤ 100000) (hM : KM w M) (hH : HD w) :
    Calls Tryd.prog 36 #[.agg #[v, .int .i64 d, .map (some M)], .agg #[.int .i64 k, .slice x m c], .int .i64 d2] w fun e w' => ReP k l w e w' := by
  obtain ⟨y, n, e, rfl⟩ := hv0
  have hW := balloc (balloc (balloc (Below.refl w.heap.size w) (.cells #[.slice y n e, .int .i64 d, .map (some M)] 68)) (.cells #[.int .i64 k, .slice x m c] 73)) (.cells #[.bool false, .slice none 0 0, .slice none 0 0] 25)
  have hPc := (Blk.newS w (.cells #[.slice y n e, .int .i64 d, .map (some M)] 68) 73 #[.int .i64 k, .slice x m c]).alloc (.cells #[.bool false, .slice none 0 0, .slice none 0 0] 25)
  have hsz : ((w.alloc (.cells #[.slice y n e, .int .i64 d, .map (some M)] 68)).alloc (.cells #[.int .i64 k, .slice x m c] 73)).heap.size = w.heap.size + 2 := by simp
  have hI := Blk.new ((w.alloc (.cells #[.slice y n e, .int .i64 d, .map (some M)] 68)).alloc (.cells #[.int .i64 k, .slice x m c] 73)) 25 #[.bool false, .slice none 0 0, .slice none 0 0]
  rw [hsz] at hI
  have hlook := look_at M kES 3 k k (.func (.func 53) #[] #[]) _ (hM.keep hW) (by rcases hk with rfl | rfl <;> rfl)
  have hg1 : ¬ (8 : Int) < d2 := by omega
  have hRb := Lib.hid (rbytes_item B (.slice x m c) l d2 M _ (hv.new hW) hl)
  have HX := Lib.hid (And.intro hW (And.intro hPc (And.intro hI (hH.keep hW))))
  clear hW hPc hI hM hH hv hsz
  go_enter Tryd.func36, Tryd.ntmps36
  go_wp2_with fail
  refine hRb.out.mono ?_
  clear hlook hRb
  rintro e w1 ⟨x1, m1, c1, rfl, hO, h1⟩
  have hP1 := (HX.out.2.1.keep h1).alloc (.cells #[.bool false, .slice x1 m1 c1, .slice none 0 0] 25)
  have hI1 := (HX.out.2.2.1.keep h1).alloc (.cells #[.bool false, .slice x1 m1 c1, .slice none 0 0] 25)
  have hT1 := Blk.new w1 25 #[.bool false, .slice x1 m1 c1, .slice none 0 0]
  have hst := balloc (Below.refl w1.heap.size w1) (.cells #[.bool false, .slice x1 m1 c1, .slice none 0 0] 25)
  have hO1 := (hO.new hst).mono (show w.heap.size + 3 ≤ _ by simp)
  have hW1 := bstep (bstep HX.out.1 h1) hst
  have hH1 := (HX.out.2.2.2.keep h1).keep hst
  have H1 := Lib.hid (And.intro hP1 (And.intro hI1 (And.intro hT1 (And.intro hO1 (And.intro hW1 hH1)))))
  clear hP1 hI1 hT1 hst hO1 hW1 hH1 hO h1 HX
  go_wp2_with fail
  obtain ⟨hP1, hI1, hT1, hO1, hW1, hH1⟩ := H1.out
  obtain ⟨W1, hWW⟩ : ∃ W1, w1.alloc (.cells #[.bool false, .slice x1 m1 c1, .slice none 0 0] 25) = W1 := ⟨_, rfl⟩
  rw [hWW] at hP1 hI1 hT1 hO1 hW1 hH1 ⊢
  clear H1 hWW
  generalize w1.heap.size = gt at hT1 ⊢
  have hdr : Below W1.heap.size W1 W1.drew := (Below.refl _ _).drew
  have hC := kindOf_bytes (.slice x1 m1 c1) l _ W1.drew (hO1.bt.new hdr) (hH1.keep hdr)
  have HC := Lib.hid hC
  have c0 : W1.drew.cell? ⟨gt, 0, none⟩ = some (.bool false) := cell_of_row _ _ 0 _ _ _ (hT1.keep hdr)
  have c1' : W1.drew.cell? ⟨gt, 1, none⟩ = some (.slice x1 m1 c1) := cell_of_row _ _ 1 _ _ _ (hT1.keep hdr)
  have c2 : W1.drew.cell? ⟨gt, 2, none⟩ = some (.slice none 0 0) := cell_of_row _ _ 2 _ _ _ (hT1.keep hdr)
  have cK : W1.drew.cell? ⟨w.heap.size + 1, 0, none⟩ = some (.int .i64 k) := cell_of_row _ _ 0 _ _ _ (hP1.keep hdr)
  have hPl : w.heap.size + 1 < W1.drew.heap.size := hP1.lt
  have H1 := Lib.hid (And.intro (hI1.keep hdr) (And.intro (hT1.keep hdr) (And.intro (hO1.new hdr) (bstep hW1 hdr))))
  clear hP1 hI1 hT1 hO1 hW1 hH1 hdr hC
  obtain ⟨kk, hkk⟩ : ∃ kk, koL l = kk := ⟨_, rfl⟩
  rw [hkk] at HC
  have HKK := Lib.hid hkk
  clear hkk
  by_cases he : kk = k
  · subst he
    refine (wpIn_wide (n := 20)).1 (wpIn_region_any (by kernel_rfl) ?_)
    refine wpAnyIn_take (i := 2) (v := ?vq2a) rfl rfl (by kernel_rfl) (by kernel_rfl) (by kernel_rfl) (fun _ _ _ h => h) ⟨Or.inl ⟨by rfl, ?yq2a⟩, fun _ => rfl⟩ ?rq2a
    case yq2a => (intro w; go_simp <;> with_reducible rfl)
    refine join_all (T := ?TKa) (fun key => ?mka) ?kka
    case mka =>
      refine wpAnyIn_ready (rs := [0, 3]) (by kernel_rfl) (by simp) ?_
      refine AllReadyIn.cons rfl (fun K hK => ?_) (AllReadyIn.cons rfl (fun K hK => ?_) (AllReadyIn.nil))
      · go_simp
        refine hK _ _ ?_
        clear hK K
        refine wpAnyIn_ready (rs := [1, 3]) (by kernel_rfl) (by simp) ?_
        refine AllReadyIn.cons rfl (fun K hK => ?_) (AllReadyIn.cons rfl (fun K hK => ?_) (AllReadyIn.nil))
        · go_simp
          refine ⟨trivial, (callsIn_wide.2 HC.out).mono ?_⟩
          rintro e wk ⟨rfl, hwk⟩
          have cK := (hwk.cell (p := ⟨w.heap.size + 1, 0, none⟩) hPl).trans cK
          have HF := Lib.hid hwk
          clear hwk
          refine hK _ _ ?_
          clear hK K
          refine wpAnyIn_ready (rs := [3]) (by kernel_rfl) (by simp) ?_
          refine AllReadyIn.cons rfl (fun K hK => ?_) (AllReadyIn.nil)
          · go_simp
            refine hK _ _ ?_
            clear hK K
            revert HF
            revert wk
            exact key.out
        · go_simp
          refine hK _ _ ?_
          clear hK K
          refine wpAnyIn_ready (rs := [1]) (by kernel_rfl) (by simp) ?_
          refine AllReadyIn.cons rfl (fun K hK => ?_) (AllReadyIn.nil)
          · go_simp
            refine ⟨trivial, (callsIn_wide.2 HC.out).mono ?_⟩
            rintro e wk ⟨rfl, hwk⟩
            have cK := (hwk.cell (p := ⟨w.heap.size + 1, 0, none⟩) hPl).trans cK
            have HF := Lib.hid hwk
            clear hwk
            refine hK _ _ ?_
            clear hK K
            revert HF
            revert wk
            exact key.out
      · go_simp
        refine hK _ _ ?_
        clear hK K
        refine wpAnyIn_ready (rs := [0]) (by kernel_rfl) (by simp) ?_
        refine AllReadyIn.cons rfl (fun K hK => ?_) (AllReadyIn.nil)
        · go_simp
          refine hK _ _ ?_
          clear hK K
          refine wpAnyIn_ready (rs := [1]) (by kernel_rfl) (by simp) ?_
          refine AllReadyIn.cons rfl (fun K hK => ?_) (AllReadyIn.nil)
          · go_simp
            refine ⟨trivial, (callsIn_wide.2 HC.out).mono ?_⟩
            rintro e wk ⟨rfl, hwk⟩
            have cK := (hwk.cell (p := ⟨w.heap.size + 1, 0, none⟩) hPl).trans cK
            have HF := Lib.hid hwk
            clear hwk
            refine hK _ _ ?_
            clear hK K
            revert HF
            revert wk
            exact key.out
    case kka =>
      intro wk cKw HF
      refine wpAnyIn_take (i := 4) (v := ?vq4a) rfl rfl (by kernel_rfl) (by kernel_rfl) (by kernel_rfl) (fun _ _ _ h => h) ⟨Or.inl ⟨by rfl, ?yq4a⟩, fun _ => rfl⟩ ?rq4a
      case yq4a => (intro w; go_simp <;> with_reducible rfl)
      refine wpAnyIn_done (by kernel_rfl) ?_ _
      simp only [Exit.then]
      have hI2 := H1.out.1.keep HF.out
      have hT2 := H1.out.2.1.keep HF.out
      have i0 := cell_of_row wk _ 0 _ _ _ hI2
      have i1 := cell_of_row wk _ 1 _ _ _ hI2
      have i2 := cell_of_row wk _ 2 _ _ _ hI2
      have f0 := frozen_of_row wk _ 0 _ _ hI2
      have f1 := frozen_of_row wk _ 1 _ _ hI2
      have f2 := frozen_of_row wk _ 2 _ _ hI2
      have t0 := cell_of_row wk _ 0 _ _ _ hT2
      have t1 := cell_of_row wk _ 1 _ _ _ hT2
      have t2 := cell_of_row wk _ 2 _ _ _ hT2
      have hG := grown_set' (grown_set' (grown_set' (grown_refl wk (w.heap.size + 2)) 0 (.bool false)) 1 (.slice x1 m1 c1)) 2 (.slice none 0 0)
      have hOk := (((H1.out.2.2.1.new HF.out).kept hG (fun r e => by cases e; omega))).mono (show w.heap.size ≤ w.heap.size + 3 by omega)
      have hWk := step_world (bstep H1.out.2.2.2 HF.out) hG (Nat.le_refl _) (by omega)
      have HE := Lib.hid (And.intro hOk hWk)
      clear hI2 hT2 hG hOk hWk
      go_wp2_with fail
      exact bodyPost_ret (v := itB (.slice x1 m1 c1)) (by simp [results, Tryd.results36, go_sem, i0, i1, i2]) rfl ⟨HE.out.2, by rw [if_pos HKK.out]; exact ⟨_, _, _, rfl, HE.out.1⟩⟩
  · have hne : ((kk : Int) != (k : Int)) = true := by simp; omega
    refine (wpIn_wide (n := 20)).1 (wpIn_region_any (by kernel_rfl) ?_)
    refine wpAnyIn_take (i := 2) (v := ?vq2b) rfl rfl (by kernel_rfl) (by kernel_rfl) (by kernel_rfl) (fun _ _ _ h => h) ⟨Or.inl ⟨by rfl, ?yq2b⟩, fun _ => rfl⟩ ?rq2b
    case yq2b => (intro w; go_simp <;> with_reducible rfl)
    refine join_all (T := ?TKb) (fun key => ?mkb) ?kkb
    case mkb =>
      refine wpAnyIn_ready (rs := [0, 3]) (by kernel_rfl) (by simp) ?_
      refine AllReadyIn.cons rfl (fun K hK => ?_) (AllReadyIn.cons rfl (fun K hK => ?_) (AllReadyIn.nil))
      · go_simp
        refine hK _ _ ?_
        clear hK K
        refine wpAnyIn_ready (rs := [1, 3]) (by kernel_rfl) (by simp) ?_
        refine AllReadyIn.cons rfl (fun K hK => ?_) (AllReadyIn.cons rfl (fun K hK => ?_) (AllReadyIn.nil))
        · go_simp
          refine ⟨trivial, (callsIn_wide.2 HC.out).mono ?_⟩
          rintro e wk ⟨rfl, hwk⟩
          have cK := (hwk.cell (p := ⟨w.heap.size + 1, 0, none⟩) hPl).trans cK
          have HF := Lib.hid hwk
          clear hwk
          refine hK _ _ ?_
          clear hK K
          refine wpAnyIn_ready (rs := [3]) (by kernel_rfl) (by simp) ?_
          refine AllReadyIn.cons rfl (fun K hK => ?_) (AllReadyIn.nil)
          · go_simp
            refine hK _ _ ?_
            clear hK K
            revert HF
            revert wk
            exact key.out
        · go_simp
          refine hK _ _ ?_
          clear hK K
          refine wpAnyIn_ready (rs := [1]) (by kernel_rfl) (by simp) ?_
          refine AllReadyIn.cons rfl (fun K hK => ?_) (AllReadyIn.nil)
          · go_simp
            refine ⟨trivial, (callsIn_wide.2 HC.out).mono ?_⟩
            rintro e wk ⟨rfl, hwk⟩
            have cK := (hwk.cell (p := ⟨w.heap.size + 1, 0, none⟩) hPl).trans cK
            have HF := Lib.hid hwk
            clear hwk
            refine hK _ _ ?_
            clear hK K
            revert HF
            revert wk
            exact key.out
      · go_simp
        refine hK _ _ ?_
        clear hK K
        refine wpAnyIn_ready (rs := [0]) (by kernel_rfl) (by simp) ?_
        refine AllReadyIn.cons rfl (fun K hK => ?_) (AllReadyIn.nil)
        · go_simp
          refine hK _ _ ?_
          clear hK K
          refine wpAnyIn_ready (rs := [1]) (by kernel_rfl) (by simp) ?_
          refine AllReadyIn.cons rfl (fun K hK => ?_) (AllReadyIn.nil)
          · go_simp
            refine ⟨trivial, (callsIn_wide.2 HC.out).mono ?_⟩
            rintro e wk ⟨rfl, hwk⟩
            have cK := (hwk.cell (p := ⟨w.heap.size + 1, 0, none⟩) hPl).trans cK
            have HF := Lib.hid hwk
            clear hwk
            refine hK _ _ ?_
            clear hK K
            revert HF
            revert wk
            exact key.out
    case kkb =>
      intro wk cKw HF
      refine wpAnyIn_take (i := 4) (v := ?vq4b) rfl rfl (by kernel_rfl) (by kernel_rfl) (by kernel_rfl) (fun _ _ _ h => h) ⟨Or.inl ⟨by rfl, ?yq4b⟩, fun _ => rfl⟩ ?rq4b
      case yq4b => (intro w; go_simp <;> with_reducible rfl)
      refine wpAnyIn_done (by kernel_rfl) ?_ _
      simp only [Exit.then]
      go_wp2_with fail
      exact ⟨rfl, bstep H1.out.2.2.2 HF.out, by rw [if_neg (by rw [HKK.out]; exact he)]⟩
end Go.Proofs.YtjmfnafbjfceoaaDoor
