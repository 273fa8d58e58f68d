/- Texts laid into one: Qi. -/
import Derived.Test.YtjmfnafbjfceoaaDoorYj
import Derived.Test.YtjmfnafbjfceoaaDoorYh
import Derived.RegionTactic
/- item: the reader's items, and read of a list. -/
namespace Go.Proofs.YtjmfnafbjfceoaaDoor
open Go.RowKit Go.Shelf
attribute [local irreducible] lb wdG byA byC heL nuL
theorem ItP.isl {M : Nat → Prop} {X : World} {ts : List It} {v : Value} (h : ItP M X (.mk true [] ts) v) : ∃ x m c y n d, v = itW true x m c y n d := by
  cases h with
  | mk b l ts v1 iv vs h1 h2 hl hs _ =>
    obtain ⟨_, x, c, rfl, _⟩ := h1
    obtain ⟨y, d, rfl, _⟩ := h2
    exact ⟨x, _, c, y, _, d, rfl⟩
set_option maxRecDepth 100000 in
set_option maxHeartbeats 4000000 in
theorem read_list (ts : List It) (v : Value) (x : Option Addr) (m c : Nat) (d d2 : Int) (M : Nat) (w : World) (hd : 0 ≤ d2 ∧ d2 ≤ 8) (hv0 : ∃ y n e, v = .slice y n e) (hM : KM w M)
    (hit : ∀ X, Below w.heap.size w X → Calls Tryd.prog 54 #[.agg #[.slice x m c, .int .i64 d2, .map (some M)]] X fun e w' => ∃ v, e = .returned v ∧ ItP (fun b => X.heap.size ≤ b) w' (.mk true [] ts) v ∧ Below X.heap.size X w') :
    Calls Tryd.prog 36 #[.agg #[v, .int .i64 d, .map (some M)], .agg #[.int .i64 2, .slice x m c], .int .i64 d2] w fun e w' => ∃ v, e = .returned v ∧ ItP (fun b => w.heap.size ≤ b) w' (.mk true [] ts) v ∧ Below w.heap.size w w' := by
  obtain ⟨y, n, e, rfl⟩ := hv0
  have hW := balloc (balloc (balloc (Below.refl w.heap.size w) (.cells #[.slice y n e, .int .i64 d, .map (some M)] 68)) (.cells #[.int .i64 2, .slice x m c] 73)) (.cells #[.bool false, .slice none 0 0, .slice none 0 0] 25)
  have hPc := (Blk.newS w (.cells #[.slice y n e, .int .i64 d, .map (some M)] 68) 73 #[.int .i64 2, .slice x m c]).alloc (.cells #[.bool false, .slice none 0 0, .slice none 0 0] 25)
  have hsz : ((w.alloc (.cells #[.slice y n e, .int .i64 d, .map (some M)] 68)).alloc (.cells #[.int .i64 2, .slice x m c] 73)).heap.size = w.heap.size + 2 := by simp
  have hI := Blk.new ((w.alloc (.cells #[.slice y n e, .int .i64 d, .map (some M)] 68)).alloc (.cells #[.int .i64 2, .slice x m c] 73)) 25 #[.bool false, .slice none 0 0, .slice none 0 0]
  rw [hsz] at hI
  have hlook := look_at M kES 3 2 2 (.func (.func 54) #[] #[]) _ (hM.keep hW) rfl
  have hg1 : ¬ (8 : Int) < d2 := by omega
  have hRb := Lib.hid (hit _ hW)
  have HX := Lib.hid (And.intro hW (And.intro hPc hI))
  clear hW hPc hI hM hsz hit
  go_enter Tryd.func36, Tryd.ntmps36
  go_wp2_with fail
  refine hRb.out.mono ?_
  clear hlook hRb
  rintro e w1 ⟨v1, rfl, hO, h1⟩
  obtain ⟨x1, m1, c1, y1, n1, d1, rfl⟩ := hO.isl
  have hP1 := (HX.out.2.1.keep h1).alloc (.cells #[.bool true, .slice x1 m1 c1, .slice y1 n1 d1] 25)
  have hI1 := (HX.out.2.2.keep h1).alloc (.cells #[.bool true, .slice x1 m1 c1, .slice y1 n1 d1] 25)
  have hT1 := Blk.new w1 25 #[.bool true, .slice x1 m1 c1, .slice y1 n1 d1]
  have hst := balloc (Below.refl w1.heap.size w1) (.cells #[.bool true, .slice x1 m1 c1, .slice y1 n1 d1] 25)
  have hO1 : ItP (fun b => w.heap.size + 3 ≤ b) _ (.mk true [] ts) (itW true x1 m1 c1 y1 n1 d1) := (hO.new hst).mono (fun b h _ => Nat.le_trans (by simp) h)
  have hW1 := bstep (bstep HX.out.1 h1) hst
  have H1 := Lib.hid (And.intro hP1 (And.intro hI1 (And.intro hT1 (And.intro hO1 hW1))))
  clear hP1 hI1 hT1 hst hO1 hW1 hO h1 HX
  go_wp2_with fail
  obtain ⟨hP1, hI1, hT1, hO1, hW1⟩ := H1.out
  obtain ⟨W1, hWW⟩ : ∃ W1, w1.alloc (.cells #[.bool true, .slice x1 m1 c1, .slice y1 n1 d1] 25) = W1 := ⟨_, rfl⟩
  rw [hWW] at hP1 hI1 hT1 hO1 hW1 ⊢
  clear H1 hWW
  generalize w1.heap.size = gt at hT1 ⊢
  have hdr : Below W1.heap.size W1 W1.drew := (Below.refl _ _).drew
  have hC := kindOf_list x1 m1 c1 y1 n1 d1 W1.drew
  have HC := Lib.hid hC
  have c0 : W1.drew.cell? ⟨gt, 0, none⟩ = some (.bool true) := cell_of_row _ _ 0 _ _ _ (hT1.keep hdr)
  have c1' : W1.drew.cell? ⟨gt, 1, none⟩ = some (.slice x1 m1 c1) := cell_of_row _ _ 1 _ _ _ (hT1.keep hdr)
  have c2 : W1.drew.cell? ⟨gt, 2, none⟩ = some (.slice y1 n1 d1) := cell_of_row _ _ 2 _ _ _ (hT1.keep hdr)
  have cK : W1.drew.cell? ⟨w.heap.size + 1, 0, none⟩ = some (.int .i64 2) := cell_of_row _ _ 0 _ _ _ (hP1.keep hdr)
  have hPl : w.heap.size + 1 < W1.drew.heap.size := hP1.lt
  have H1 := Lib.hid (And.intro (hI1.keep hdr) (And.intro (hT1.keep hdr) (And.intro (hO1.new hdr) (bstep hW1 hdr))))
  clear hP1 hI1 hT1 hO1 hW1 hdr hC
  · refine (wpIn_wide (n := 20)).1 (wpIn_region_any (by kernel_rfl) ?_)
    refine wpAnyIn_take (i := 2) (v := ?vq2a) rfl rfl (by kernel_rfl) (by kernel_rfl) (by kernel_rfl) (fun _ _ _ h => h) ⟨Or.inl ⟨by rfl, ?yq2a⟩, fun _ => rfl⟩ ?rq2a
    case yq2a => (intro w; go_simp <;> with_reducible rfl)
    refine join_all (T := ?TKa) (fun key => ?mka) ?kka
    case mka =>
      refine wpAnyIn_ready (rs := [0, 3]) (by kernel_rfl) (by simp) ?_
      refine AllReadyIn.cons rfl (fun K hK => ?_) (AllReadyIn.cons rfl (fun K hK => ?_) (AllReadyIn.nil))
      · go_simp
        refine hK _ _ ?_
        clear hK K
        refine wpAnyIn_ready (rs := [1, 3]) (by kernel_rfl) (by simp) ?_
        refine AllReadyIn.cons rfl (fun K hK => ?_) (AllReadyIn.cons rfl (fun K hK => ?_) (AllReadyIn.nil))
        · go_simp
          refine ⟨trivial, (callsIn_wide.2 HC.out).mono ?_⟩
          rintro e wk ⟨rfl, hwk⟩
          have cK := (hwk.cell (p := ⟨w.heap.size + 1, 0, none⟩) hPl).trans cK
          have HF := Lib.hid hwk
          clear hwk
          refine hK _ _ ?_
          clear hK K
          refine wpAnyIn_ready (rs := [3]) (by kernel_rfl) (by simp) ?_
          refine AllReadyIn.cons rfl (fun K hK => ?_) (AllReadyIn.nil)
          · go_simp
            refine hK _ _ ?_
            clear hK K
            revert HF
            revert wk
            exact key.out
        · go_simp
          refine hK _ _ ?_
          clear hK K
          refine wpAnyIn_ready (rs := [1]) (by kernel_rfl) (by simp) ?_
          refine AllReadyIn.cons rfl (fun K hK => ?_) (AllReadyIn.nil)
          · go_simp
            refine ⟨trivial, (callsIn_wide.2 HC.out).mono ?_⟩
            rintro e wk ⟨rfl, hwk⟩
            have cK := (hwk.cell (p := ⟨w.heap.size + 1, 0, none⟩) hPl).trans cK
            have HF := Lib.hid hwk
            clear hwk
            refine hK _ _ ?_
            clear hK K
            revert HF
            revert wk
            exact key.out
      · go_simp
        refine hK _ _ ?_
        clear hK K
        refine wpAnyIn_ready (rs := [0]) (by kernel_rfl) (by simp) ?_
        refine AllReadyIn.cons rfl (fun K hK => ?_) (AllReadyIn.nil)
        · go_simp
          refine hK _ _ ?_
          clear hK K
          refine wpAnyIn_ready (rs := [1]) (by kernel_rfl) (by simp) ?_
          refine AllReadyIn.cons rfl (fun K hK => ?_) (AllReadyIn.nil)
          · go_simp
            refine ⟨trivial, (callsIn_wide.2 HC.out).mono ?_⟩
            rintro e wk ⟨rfl, hwk⟩
            have cK := (hwk.cell (p := ⟨w.heap.size + 1, 0, none⟩) hPl).trans cK
            have HF := Lib.hid hwk
            clear hwk
            refine hK _ _ ?_
            clear hK K
            revert HF
            revert wk
            exact key.out
    case kka =>
      intro wk cKw HF
      refine wpAnyIn_take (i := 4) (v := ?vq4a) rfl rfl (by kernel_rfl) (by kernel_rfl) (by kernel_rfl) (fun _ _ _ h => h) ⟨Or.inl ⟨by rfl, ?yq4a⟩, fun _ => rfl⟩ ?rq4a
      case yq4a => (intro w; go_simp <;> with_reducible rfl)
      refine wpAnyIn_done (by kernel_rfl) ?_ _
      simp only [Exit.then]
      have hI2 := H1.out.1.keep HF.out
      have hT2 := H1.out.2.1.keep HF.out
      have i0 := cell_of_row wk _ 0 _ _ _ hI2
      have i1 := cell_of_row wk _ 1 _ _ _ hI2
      have i2 := cell_of_row wk _ 2 _ _ _ hI2
      have f0 := frozen_of_row wk _ 0 _ _ hI2
      have f1 := frozen_of_row wk _ 1 _ _ hI2
      have f2 := frozen_of_row wk _ 2 _ _ hI2
      have t0 := cell_of_row wk _ 0 _ _ _ hT2
      have t1 := cell_of_row wk _ 1 _ _ _ hT2
      have t2 := cell_of_row wk _ 2 _ _ _ hT2
      have hG := grown_set' (grown_set' (grown_set' (grown_refl wk (w.heap.size + 2)) 0 (.bool true)) 1 (.slice x1 m1 c1)) 2 (.slice y1 n1 d1)
      have hOk : ItP (fun b => w.heap.size ≤ b) _ (.mk true [] ts) (itW true x1 m1 c1 y1 n1 d1) := (((H1.out.2.2.1.new HF.out).grown hG (fun r e h => by cases e; omega))).mono (fun b h _ => by omega)
      have hWk := step_world (bstep H1.out.2.2.2 HF.out) hG (Nat.le_refl _) (by omega)
      have HE := Lib.hid (And.intro hOk hWk)
      clear hI2 hT2 hG hOk hWk
      go_wp2_with fail
      exact bodyPost_ret (v := itW true x1 m1 c1 y1 n1 d1) (by simp [results, Tryd.results36, go_sem, i0, i1, i2]) rfl ⟨_, rfl, HE.out⟩

set_option maxRecDepth 100000 in
set_option maxHeartbeats 2000000 in
theorem items1_any (R k : Nat) (y : Option Addr) (m c : Nat) (v0 : Value) (d d3 : Int) (M : Nat) (t : It) (w : World) (hR : RB w R v0 d M) (hv0 : ∃ y n e, v0 = .slice y n e) (hd : IntKind.i64.wrap (d + 1) = d3)
    (hrd : ∀ Y, Below w.heap.size w Y → Calls Tryd.prog 36 #[.agg #[v0, .int .i64 d, .map (some M)], .agg #[.int .i64 (k : Nat), .slice y m c], .int .i64 d3] Y fun e w' => ∃ v, e = .returned v ∧ ItP (fun b => Y.heap.size ≤ b) w' t v ∧ Below Y.heap.size Y w') :
    Calls Tryd.prog 75 #[.agg #[.int .i64 (k : Nat), .slice y m c], .pointer (some ⟨R, 0, none⟩)] w fun e w' => ∃ v, e = .returned v ∧ ItP (fun b => w.heap.size ≤ b) w' t v ∧ Below w.heap.size w w' := by
  obtain ⟨y0, n0, e0, rfl⟩ := hv0
  have hW := balloc (balloc (Below.refl w.heap.size w) (.cells #[.int .i64 (k : Nat), .slice y m c] 73)) (.cells #[.bool false, .slice none 0 0, .slice none 0 0] 25)
  have hI := Blk.newS w (.cells #[.int .i64 (k : Nat), .slice y m c] 73) 25 #[.bool false, .slice none 0 0, .slice none 0 0]
  have r0 := cell_of_row _ _ 0 _ _ _ hR
  have r1 := cell_of_row _ _ 1 _ _ _ hR
  have r2 := cell_of_row _ _ 2 _ _ _ hR
  have hRl := hR.lt
  have HC := Lib.hid (hrd _ hW)
  have HX := Lib.hid (And.intro hW hI)
  clear hW hI hrd hR
  go_enter Tryd.func75, Tryd.ntmps75
  go_wp2_with fail
  refine HC.out.mono ?_
  rintro e w1 ⟨v, rfl, hT, h1⟩
  obtain ⟨b1, x1, m1, c1, y1, n1, d1, rfl⟩ := hT.is
  have hI1 := HX.out.2.keep h1
  have i0 := cell_of_row w1 _ 0 _ _ _ hI1
  have i1 := cell_of_row w1 _ 1 _ _ _ hI1
  have i2 := cell_of_row w1 _ 2 _ _ _ hI1
  have f0 := frozen_of_row w1 _ 0 _ _ hI1
  have f1 := frozen_of_row w1 _ 1 _ _ hI1
  have f2 := frozen_of_row w1 _ 2 _ _ hI1
  have hG := grown_set' (grown_set' (grown_set' (grown_refl w1 (w.heap.size + 1)) 0 (.bool b1)) 1 (.slice x1 m1 c1)) 2 (.slice y1 n1 d1)
  have hT2 : ItP (fun b => w.heap.size + 2 ≤ b) w1 t (itW b1 x1 m1 c1 y1 n1 d1) := hT.mono (fun b h _ => by simp at h; omega)
  have hOk : ItP (fun b => w.heap.size ≤ b) _ t (itW b1 x1 m1 c1 y1 n1 d1) := (hT2.grown hG (fun r e h => by cases e; omega)).mono (fun b h _ => by omega)
  have hWk := step_world (bstep HX.out.1 h1) hG (Nat.le_refl _) (by omega)
  have HE := Lib.hid (And.intro hOk hWk)
  clear hI1 hG hOk hWk hT hT2 h1 HC
  go_wp2_with fail
  exact bodyPost_ret (v := itW b1 x1 m1 c1 y1 n1 d1) (by simp [results, Tryd.results75, go_sem, i0, i1, i2]) rfl ⟨_, rfl, HE.out⟩

set_option maxRecDepth 100000 in
set_option maxHeartbeats 2000000 in
theorem ritems_any (x : Option Addr) (m c : Nat) (B M : Nat) (d : Int) (kd : Nat → Nat) (bd rs : Nat → List Nat) (ts : List It) (w : World) (hB : B ≤ w.heap.size) (hgR : 0 < w.heap.size) (hN : ts.length ≤ 4096)
    (hv : Bt B w (.slice x m c) (rs 0)) (hH : HD w) (hP : ∀ i, i < ts.length → cutS (rs i) = some (kd i, bd i, rs (i + 1))) (hE : rs ts.length = [])
    (hI : ∀ (i : Nat) t y c' X, ts[i]? = some t → Below w.heap.size w X → RB X w.heap.size (.slice x m c) d M → Bt B X (.slice y (bd i).length c') (bd i) → Calls Tryd.prog 75 #[.agg #[.int .i64 (kd i : Nat), .slice y (bd i).length c'], .pointer (some ⟨w.heap.size, 0, none⟩)] X fun e w' => ∃ v, e = .returned v ∧ ItP (fun b => X.heap.size ≤ b) w' t v ∧ Below X.heap.size X w') :
    Calls Tryd.prog 54 #[.agg #[.slice x m c, .int .i64 d, .map (some M)]] w fun e w' => ∃ v, e = .returned v ∧ ItP (fun b => w.heap.size ≤ b) w' (.mk true [] ts) v ∧ Below w.heap.size w w' := by
  have hmf : ∀ (fn : Fn) (first cap : Array Value) (w : World), (Instr.makeFunc fn first cap).run Tryd.prog w = .ok (.func fn first cap) w := fun _ _ _ _ => rfl
  have hW := balloc (balloc (balloc (Below.refl w.heap.size w) (.cells #[.slice x m c, .int .i64 d, .map (some M)] 68)) (.cells #[.bool false, .slice none 0 0, .slice none 0 0] 25)) (.cells #[.slice x m c, .int .i64 d, .map (some M)] 68)
  have hR1 := ((Blk.new w 68 #[.slice x m c, .int .i64 d, .map (some M)]).alloc (.cells #[.bool false, .slice none 0 0, .slice none 0 0] 25)).alloc (.cells #[.slice x m c, .int .i64 d, .map (some M)] 68)
  have hI1 := (Blk.newS w (.cells #[.slice x m c, .int .i64 d, .map (some M)] 68) 25 #[.bool false, .slice none 0 0, .slice none 0 0]).alloc (.cells #[.slice x m c, .int .i64 d, .map (some M)] 68)
  have hR2 := Blk.new ((w.alloc (.cells #[.slice x m c, .int .i64 d, .map (some M)] 68)).alloc (.cells #[.bool false, .slice none 0 0, .slice none 0 0] 25)) 68 #[.slice x m c, .int .i64 d, .map (some M)]
  have hsz : ((w.alloc (.cells #[.slice x m c, .int .i64 d, .map (some M)] 68)).alloc (.cells #[.bool false, .slice none 0 0, .slice none 0 0] 25)).heap.size = w.heap.size + 2 := by simp
  rw [hsz] at hR2
  have HM := Lib.hid (made_items w.heap.size (w.heap.size + 2) B M d kd bd rs (.slice x m c) ts _ hB hgR (by omega) hN hR1 hR2 (hv.new hW) (hH.keep hW) hP hE (fun i t y c' X h1 h2 => hI i t y c' X h1 (hW.trans h2)))
  have HW := Lib.hid (And.intro hW hI1)
  have HSZ := Lib.hid hsz
  clear hW hR1 hI1 hR2 hsz hI hH hv
  go_enter Tryd.func54, Tryd.ntmps54
  go_wp2_with fail
  refine (pieces_any (.slice x m c) d M _ ⟨_, _, _, rfl⟩).mono ?_
  rintro e w1 ⟨rfl, rfl⟩
  rename_i K hK
  refine hK _ _ ?_
  clear hK K
  rw [HSZ.out]
  refine wpList_plain rfl fun K hK => ?_
  go_simp
  refine hK _ _ ?_
  clear hK K
  refine wpList_plain rfl fun K hK => ?_
  go_simp
  refine HM.out.mono ?_
  rintro e w2 ⟨x2, c2, vs, rfl, hYs, hlen, hYi, _, h2⟩
  refine hK _ _ ?_
  clear hK K HM
  have hI2 := HW.out.2.kept h2 (fun e => by injection e with e; omega)
  have i0 := cell_of_row w2 _ 0 _ _ _ hI2
  have i1 := cell_of_row w2 _ 1 _ _ _ hI2
  have i2 := cell_of_row w2 _ 2 _ _ _ hI2
  have f0 := frozen_of_row w2 _ 0 _ _ hI2
  have f1 := frozen_of_row w2 _ 1 _ _ hI2
  have f2 := frozen_of_row w2 _ 2 _ _ hI2
  have hG := grown_set' (grown_set' (grown_set' (grown_refl w2 (w.heap.size + 1)) 0 (.bool true)) 1 (.slice none 0 0)) 2 (.slice x2 ts.length c2)
  have hs3 : ∀ b, ((w.alloc (.cells #[.slice x m c, .int .i64 d, .map (some M)] 68)).alloc (.cells #[.bool false, .slice none 0 0, .slice none 0 0] 25)).heap.size + 1 ≤ b → w.heap.size + 3 ≤ b := fun b h => by have := HSZ.out; omega
  have hYt : ItP (fun b => w.heap.size + 3 ≤ b) w2 (.mk true [] ts) (itW true none 0 0 x2 ts.length c2) :=
    ItP.mk true [] ts (.slice none 0 0) (.slice x2 ts.length c2) vs ⟨by simp, none, 0, rfl, by simp, by simp, fun h => (h rfl).elim⟩ (hYs.mono (fun b h _ => hs3 b (by rw [World.size_alloc] at h; exact h))) hlen (fun i t v a b => (hYi i t v a b).mono (fun b h _ => hs3 b (by rw [World.size_alloc] at h; exact h))) (fun n c e => by cases e; rfl)
  have hOk : ItP (fun b => w.heap.size ≤ b) _ (.mk true [] ts) (itW true none 0 0 x2 ts.length c2) := (hYt.grown hG (fun r e h => by cases e; omega)).mono (fun b h _ => by omega)
  have hWk : Below w.heap.size w w2 := HW.out.1.grown h2 HW.out.1.size (fun r e => by cases e; omega)
  have hWf := step_world hWk hG (Nat.le_refl _) (by omega)
  have HE := Lib.hid (And.intro hOk hWf)
  clear hI2 hG hYt hYs hYi hOk hWf hWk h2 hlen hs3
  go_wp2_with fail
  exact bodyPost_ret (v := itW true none 0 0 x2 ts.length c2) (by simp [results, Tryd.results54, go_sem, i0, i1, i2]) rfl ⟨_, rfl, HE.out⟩
end Go.Proofs.YtjmfnafbjfceoaaDoor

/- item: cut of an item's bytes, in plain lists; read of any item. -/
namespace Go.Proofs.YtjmfnafbjfceoaaDoor
open Go.RowKit Go.Shelf
attribute [local irreducible] lb wdG byA byC
theorem leS_he (h n : Nat) (hn : n < 65536) (r : List Nat) : ∃ s tl, heL h n = (h + s) :: tl ∧ s ≤ 57 ∧ leS s (tl ++ r) = some (n, r) := by
  rw [heL_eq h n hn]
  by_cases h1 : n ≤ 55
  · rw [if_pos h1]
    exact ⟨n, [], rfl, by omega, by unfold leS; rw [if_pos h1]; rfl⟩
  · rw [if_neg h1]
    by_cases h2 : n < 256
    · rw [if_pos h2]
      refine ⟨56, [n], rfl, by omega, ?_⟩
      have e : (([n] ++ r).take (56 - 55)) = [n] := by simp
      have e2 : (([n] ++ r).drop (56 - 55)) = r := by simp
      have e3 : (woS false [n]).2 = 0 := by
        unfold woS
        rw [if_neg (by simp; omega)]
      have e4 : nuL [n] = n := by unfold nuL; simp [numB]
      unfold leS
      rw [if_neg (by omega), if_neg (by simp), e, e2, e3, e4, if_pos ⟨rfl, by omega⟩]
    · rw [if_neg h2]
      refine ⟨57, [n / 256, n % 256], rfl, by omega, ?_⟩
      have e : (([n / 256, n % 256] ++ r).take (57 - 55)) = [n / 256, n % 256] := by simp
      have e2 : (([n / 256, n % 256] ++ r).drop (57 - 55)) = r := by simp
      have e3 : (woS false [n / 256, n % 256]).2 = 0 := by
        unfold woS
        rw [if_neg (by simp; omega)]
      have e4 : nuL [n / 256, n % 256] = n := by unfold nuL; simp [numB]; omega
      unfold leS
      rw [if_neg (by omega), if_neg (by simp), e, e2, e3, e4, if_pos ⟨rfl, by omega⟩]
theorem cut_he (k : Nat) (hk : k = 1 ∨ k = 2) (body r : List Nat) (hl : body.length < 65536) : cutS (heL (hdN k) body.length ++ (body ++ r)) = some (k, body, r) := by
  obtain ⟨s, tl, h1, h2, h3⟩ := leS_he (hdN k) body.length hl (body ++ r)
  have hh : kdN (hdN k + s) = k ∧ ¬ hdN k + s < 128 := by
    rcases hk with rfl | rfl
    · have e : hdN 1 = 128 := rfl
      rw [e]; unfold kdN
      exact ⟨by rw [if_neg (by omega), if_pos (by omega)], by omega⟩
    · have e : hdN 2 = 192 := rfl
      rw [e]; unfold kdN
      exact ⟨by rw [if_neg (by omega), if_neg (by omega)], by omega⟩
  rw [h1, List.cons_append, cutS_cons, if_neg hh.2, hh.1, show hdN k + s - hdN k = s by omega, h3]
  simp only
  rw [if_neg (by simp), List.take_left, List.drop_left]
theorem cut_laB (l r : List Nat) (hl : l.length < 65536) : cutS (laB l ++ r) = some (koL l, l, r) := by
  unfold laB
  by_cases hk : koL l = 0
  · rw [if_pos hk, List.nil_append, hk]
    unfold koL at hk
    split at hk
    · rename_i h
      obtain ⟨x, rfl⟩ := List.length_eq_one_iff.1 h.1
      have hx : x < 128 := by simpa using h.2
      rw [List.singleton_append, cutS_cons, if_pos hx]
    · cases hk
  · have hk1 : koL l = 1 := by rcases koL_le l with h | h; exact absurd h hk; exact h
    rw [if_neg hk, hk1, List.append_assoc]
    exact cut_he 1 (.inl rfl) l r hl
theorem cut_laL (yss : List (List Nat)) (r : List Nat) (hl : toL yss < 65536) : cutS (laL yss ++ r) = some (2, yss.flatten, r) := by
  unfold laL
  rw [List.append_assoc]
  exact cut_he 2 (.inr rfl) yss.flatten r hl
/-- An item's kind, and its bytes without the head. -/
def kT : It → Nat
  | .mk b l _ => if b then 2 else koL l
def boT : Nat → It → List Nat
  | 0, _ => []
  | d + 1, .mk b l ts => if b then (ts.map (laT d)).flatten else l
theorem cut_laT (d : Nat) (t : It) (r : List Nat) (hr : rtB d t = true) (hl : (laT d t).length < 65536) : cutS (laT d t ++ r) = some (kT t, boT d t, r) := by
  cases d with
  | zero => simp [rtB] at hr
  | succ d =>
    obtain ⟨b, l, ts⟩ := t
    cases b with
    | false =>
      have hl' : (laB l).length < 65536 := hl
      exact cut_laB l r (by unfold laB at hl'; rw [List.length_append] at hl'; omega)
    | true =>
      have hl' : (laL (ts.map (laT d))).length < 65536 := hl
      exact cut_laL (ts.map (laT d)) r (by unfold laL at hl'; rw [List.length_append] at hl'; unfold toL; omega)
theorem bo_le (d : Nat) (t : It) : (boT d t).length ≤ (laT d t).length := by
  cases d with
  | zero => simp [boT]
  | succ d =>
    obtain ⟨b, l, ts⟩ := t
    cases b with
    | false =>
      show l.length ≤ (laB l).length
      unfold laB; rw [List.length_append]; omega
    | true =>
      show (ts.map (laT d)).flatten.length ≤ (laL (ts.map (laT d))).length
      unfold laL; rw [List.length_append]; omega
attribute [local irreducible] heL nuL
/-- read of an item's piece. -/
theorem read_tree (d : Nat) (hd8 : d ≤ 8) : ∀ (t : It) (v0 : Value) (x : Option Addr) (c B : Nat) (dd : Int) (M : Nat) (w : World), (∃ y n e, v0 = .slice y n e) → B ≤ w.heap.size → 0 < w.heap.size → HD w → KM w M → smT t → rtB d t = true → (laT d t).length ≤ 4096 → Bt B w (.slice x (boT d t).length c) (boT d t) →
    Calls Tryd.prog 36 #[.agg #[v0, .int .i64 dd, .map (some M)], .agg #[.int .i64 (kT t : Nat), .slice x (boT d t).length c], .int .i64 (9 - d : Nat)] w fun e w' => ∃ v, e = .returned v ∧ ItP (fun b => w.heap.size ≤ b) w' t v ∧ Below w.heap.size w w' := by
  induction d with
  | zero => intro t v0 x c B dd M w _ _ _ _ _ _ hr; simp [rtB] at hr
  | succ d ih =>
    intro t v0 x c B dd M w hv0 hB hgR hH hM hsm hr hl hb
    have h9 : ((9 - (d + 1) : Nat) : Int) = 8 - (d : Int) := by omega
    cases hsm with
    | mk b l ts k1 k2 k3 =>
      cases b with
      | false =>
        have hts : ts = [] := by simpa [rtB] using hr
        subst hts
        have hb' : Bt B w (.slice x l.length c) l := hb
        refine (read_bytes B v0 (koL l) x l.length c l dd (9 - (d + 1) : Nat) M w (koL_le l) ⟨by omega, by omega⟩ hv0 hb' (by omega) hM hH).mono ?_
        rintro e w' ⟨h1, h2⟩
        rw [if_pos rfl] at h2
        obtain ⟨y, m, c2, rfl, hO⟩ := h2
        exact ⟨_, rfl, ItP.bytes hO (by omega), h1⟩
      | true =>
        have hr' : (l.isEmpty && ts.all (rtB d)) = true := hr
        rw [Bool.and_eq_true] at hr'
        have hlnil : l = [] := by simpa using hr'.1
        subst hlnil
        have hl' : (laL (ts.map (laT d))).length ≤ 4096 := hl
        have hfl : (ts.map (laT d)).flatten.length ≤ 4096 := by unfold laL at hl'; rw [List.length_append] at hl'; omega
        have hb' : Bt B w (.slice x (ts.map (laT d)).flatten.length c) (ts.map (laT d)).flatten := hb
        refine read_list ts v0 x _ c dd (9 - (d + 1) : Nat) M w ⟨by omega, by omega⟩ hv0 hM (fun X hX => ?_)
        refine ritems_any x _ c B M _ (fun i => kT (ts.getD i (.mk false [] []))) (fun i => boT d (ts.getD i (.mk false [] []))) (fun i => ((ts.drop i).map (laT d)).flatten) ts X (Nat.le_trans hB hX.size) (Nat.lt_of_lt_of_le hgR hX.size) (by omega) (hb'.new hX) (hH.keep hX) ?_ (by simp) ?_
        · intro i hi
          have e : ts.drop i = ts[i] :: ts.drop (i + 1) := (List.drop_eq_getElem_cons hi)
          have e2 : ts.getD i (.mk false [] []) = ts[i] := by rw [List.getD_eq_getElem?_getD, List.getElem?_eq_getElem hi]; rfl
          show cutS ((ts.drop i).map (laT d)).flatten = some (kT (ts.getD i (.mk false [] [])), boT d (ts.getD i (.mk false [] [])), ((ts.drop (i + 1)).map (laT d)).flatten)
          rw [e2, e, List.map_cons, List.flatten_cons]
          refine cut_laT d _ _ (List.all_eq_true.1 hr'.2 _ (List.getElem_mem _)) ?_
          have := toL_mem (laT d) ts[i] ts (List.getElem_mem _)
          unfold toL at this; omega
        · intro i t y c' X2 ht hX2 hR hbb
          have hi : i < ts.length := (List.getElem?_eq_some_iff.1 ht).1
          have e2 : ts.getD i (.mk false [] []) = t := by rw [List.getD_eq_getElem?_getD, ht]; rfl
          simp only [e2] at hbb ⊢
          have hmem := List.mem_of_getElem? ht
          have hrt := List.all_eq_true.1 hr'.2 t hmem
          have hlt : (laT d t).length ≤ 4096 := by
            have := toL_mem (laT d) t ts hmem
            unfold toL at this; omega
          have hs2 : X.heap.size ≤ X2.heap.size := hX2.size
          refine items1_any X.heap.size (kT t) y (boT d t).length c' _ (9 - (d + 1) : Nat) (9 - d : Nat) M t X2 hR ⟨_, _, _, rfl⟩ ?_ (fun Y hY => ?_)
          · rw [IntWalk.i64_in _ (by omega)]; omega
          · exact ih (by omega) t _ y c' B (9 - (d + 1) : Nat) M Y ⟨_, _, _, rfl⟩ (by have := hX.size; have := hY.size; omega) (by have := hX.size; have := hY.size; omega) (((hH.keep hX).keep hX2).keep hY) (((hM.keep hX).keep hX2).keep hY) (k3 i t ht) hrt hlt (hbb.new hY)
end Go.Proofs.YtjmfnafbjfceoaaDoor

/- item: First and Decode of any item's bytes. -/
namespace Go.Proofs.YtjmfnafbjfceoaaDoor
open Go.RowKit Go.Shelf
attribute [local irreducible] lb wdG byA byC heL nuL
set_option maxRecDepth 100000 in
set_option maxHeartbeats 4000000 in
theorem first1_tree (t : It) (B R : Nat) (v : Value) (l : List Nat) (d : Int) (M : Nat) (k : Nat) (body r2 : List Nat) (w : World) (hR : RB w R v d M) (hv : Bt B w v l) (hB : B ≤ R) (hH : HD w) (hgR : 0 < R) (hM : KM w M) (hMR : M ≠ R) (_hl : l.length ≤ 4096) (hcs : cutS l = some (k, body, r2))
    (hrd : ∀ X vv x m c, (∃ y n e, vv = .slice y n e) → w.heap.size ≤ X.heap.size → HD X → KM X M → Bt B X (.slice x m c) body → Calls Tryd.prog 36 #[.agg #[vv, .int .i64 d, .map (some M)], .agg #[.int .i64 k, .slice x m c], .int .i64 1] X fun e w' => ∃ v, e = .returned v ∧ ItP (fun b => X.heap.size ≤ b) w' t v ∧ Below X.heap.size X w') :
    Calls Tryd.prog 35 #[.pointer (some ⟨R, 0, none⟩)] w fun e w' => ∃ b x m c y n d2, e = .returned (itW b x m c y n d2) ∧ ItP (fun b => w.heap.size ≤ b) w' t (itW b x m c y n d2) ∧ (∃ v2, RB w' R v2 d M ∧ Bt B w' v2 r2) ∧ w.grownBy w' (some R) := by
  obtain ⟨_, y, e, rfl, _⟩ := id hv
  have hW := balloc (Below.refl w.heap.size w) (.cells #[.bool false, .slice none 0 0, .slice none 0 0] 25)
  have hI := Blk.new w 25 #[.bool false, .slice none 0 0, .slice none 0 0]
  have hRl := hR.lt
  obtain ⟨W1, hW1⟩ : ∃ W1, w.alloc (.cells #[.bool false, .slice none 0 0, .slice none 0 0] 25) = W1 := ⟨_, rfl⟩
  rw [hW1] at hW hI
  have hd0 : Below W1.heap.size W1 W1.drew := (Below.refl _ _).drew
  have hWd := bstep hW hd0
  have hRd := hR.keep hWd
  have hvd := hv.new hWd
  have hHd := hH.keep hWd
  have hMd := hM.keep hWd
  have hId := hI.keep hd0
  have hC := cut_any B R _ l d M W1.drew hRd hvd hB hHd hgR
  rw [hcs] at hC
  have HC := Lib.hid (hC.mono (R' := fun e w' => ∃ x m c, e = .returned (.agg #[.int .i64 k, .slice x m c]) ∧ Bt B w' (.slice x m c) body ∧ (∃ v2, RB w' R v2 d M ∧ Bt B w' v2 r2) ∧ W1.drew.grownBy w' (some R)) (fun e w' h => by obtain ⟨x, m, c, h1, h2, h3⟩ := h.2; exact ⟨x, m, c, h1, h2, h3, h.1⟩))
  have HRD := Lib.hid hrd
  clear hrd
  have r0 : W1.drew.cell? ⟨R, 0, none⟩ = some (.slice y l.length e) := cell_of_row _ _ 0 _ _ _ hRd
  have r1 : W1.drew.cell? ⟨R, 1, none⟩ = some (.int .i64 d) := cell_of_row _ _ 1 _ _ _ hRd
  have r2' : W1.drew.cell? ⟨R, 2, none⟩ = some (.map (some M)) := cell_of_row _ _ 2 _ _ _ hRd
  have HX := Lib.hid (And.intro hWd (And.intro hHd (And.intro hMd hId)))
  clear hC hR hv hH hM hW hI hd0 hWd hRd hvd hHd hMd hId hcs
  obtain ⟨N, hN⟩ : ∃ N, l.length = N := ⟨_, rfl⟩
  rw [hN] at r0
  clear hN
  go_enter Tryd.func35, Tryd.ntmps35
  go_wp2_with fail
  refine (wpIn_wide (n := 20)).1 (wpIn_region_any (by kernel_rfl) ?_)
  refine wpAnyIn_take (i := 1) (v := ?vq1) rfl rfl (by kernel_rfl) (by kernel_rfl) (by kernel_rfl) (fun _ _ _ h => h) ⟨Or.inl ⟨by rfl, ?yq1⟩, fun _ => rfl⟩ ?rq1
  case yq1 => (intro w; go_simp <;> with_reducible rfl)
  refine wpAnyIn_ready (rs := [0, 2]) (by kernel_rfl) (by simp) ?_
  refine AllReadyIn.cons rfl (fun K hK => ?_) (AllReadyIn.cons rfl (fun K hK => ?_) (AllReadyIn.nil))
  · go_simp
    refine hK _ _ ?_
    clear hK K
    refine wpAnyIn_ready (rs := [2]) (by kernel_rfl) (by simp) ?_
    refine AllReadyIn.cons rfl (fun K hK => ?_) (AllReadyIn.nil)
    go_simp
    refine ⟨trivial, (callsIn_wide.2 HC.out).mono ?_⟩
    rintro e w3 ⟨x3, m3, c3, rfl, hb3, ⟨v3, hR3, hv3⟩, hg3⟩
    have hH3 := HX.out.2.1.far (by omega) hg3
    have hM3 := HX.out.2.2.1.kept hg3 (fun e => by injection e; omega)
    have hI3 := HX.out.2.2.2.kept hg3 (fun e => by injection e; omega)
    have hgw3 := grown_then' (grown_of R HX.out.1) hg3
    obtain ⟨_, y3, e3, rfl, _⟩ := id hv3
    have q0 : w3.cell? ⟨R, 0, none⟩ = some (.slice y3 r2.length e3) := cell_of_row _ _ 0 _ _ _ hR3
    have q1 : w3.cell? ⟨R, 1, none⟩ = some (.int .i64 d) := cell_of_row _ _ 1 _ _ _ hR3
    have q2 : w3.cell? ⟨R, 2, none⟩ = some (.map (some M)) := cell_of_row _ _ 2 _ _ _ hR3
    have hRead := fun (vv : Value) (hvv : ∃ y n e, vv = .slice y n e) => HRD.out w3 vv x3 m3 c3 hvv (by have h1 := hg3.size; have h2 := HX.out.1.size; omega) hH3 hM3 hb3
    have HR := Lib.hid hRead
    have H3 := Lib.hid (And.intro hR3 (And.intro hv3 (And.intro hI3 (And.intro hgw3 hg3))))
    clear hb3 hR3 hv3 hg3 hH3 hM3 hI3 hgw3 hRead
    refine hK _ _ ?_
    clear hK K
    refine wpAnyIn_ready (rs := [3]) (by kernel_rfl) (by simp) ?_
    refine AllReadyIn.cons rfl (fun K hK => ?_) (AllReadyIn.nil)
    go_simp
    refine ⟨trivial, (callsIn_wide.2 (HR.out (.slice y N e) ⟨_, _, _, rfl⟩)).mono ?_⟩
    rintro e w4 ⟨v5, rfl, hO5, h4⟩
    obtain ⟨b5, x5, m5, c5, y5, n5, d5, rfl⟩ := hO5.is
    have hI4 := H3.out.2.2.1.keep h4
    have i0 := cell_of_row w4 _ 0 _ _ _ hI4
    have i1 := cell_of_row w4 _ 1 _ _ _ hI4
    have i2 := cell_of_row w4 _ 2 _ _ _ hI4
    have f0 := frozen_of_row w4 _ 0 _ _ hI4
    have f1 := frozen_of_row w4 _ 1 _ _ hI4
    have f2 := frozen_of_row w4 _ 2 _ _ hI4
    have hG := grown_set' (grown_set' (grown_set' (grown_refl w4 w.heap.size) 0 (.bool b5)) 1 (.slice x5 m5 c5)) 2 (.slice y5 n5 d5)
    have hs3 : w.heap.size + 1 ≤ w3.heap.size := by have h1 := H3.out.2.2.2.2.size; have h2 := HX.out.2.2.2.lt; omega
    have HE := Lib.hid (show ItP (fun b => w.heap.size ≤ b) _ t (itW b5 x5 m5 c5 y5 n5 d5) ∧ (∃ v2, RB _ R v2 d M ∧ Bt B _ v2 r2) ∧ w.grownBy _ (some R) from ⟨(hO5.grown hG (fun r e h => by cases e; omega)).mono (fun b h _ => by omega), ⟨_, (H3.out.1.keep h4).kept hG (fun e => by injection e; omega), (H3.out.2.1.new h4).far hG (by omega)⟩, grown_above (grown_then H3.out.2.2.2.1 h4) hG (Nat.le_refl _)⟩)
    clear hI4 hG hO5 h4 q0 q1 q2 r0 r1 r2'
    refine hK _ _ ?_
    clear hK K
    refine wpAnyIn_ready (rs := [4]) (by kernel_rfl) (by simp) ?_
    refine AllReadyIn.cons rfl (fun K hK => ?_) (AllReadyIn.nil)
    go_simp
    refine hK _ _ ?_
    clear hK K
    refine wpAnyIn_done (by kernel_rfl) ?_ _
    simp only [Exit.then]
    go_wp2_with fail
    exact bodyPost_ret (v := itW b5 x5 m5 c5 y5 n5 d5) (by simp [results, Tryd.results35, go_sem, i0, i1, i2]) rfl ⟨_, _, _, _, _, _, _, rfl, HE.out⟩
  · go_simp
    refine ⟨trivial, (callsIn_wide.2 HC.out).mono ?_⟩
    rintro e w3 ⟨x3, m3, c3, rfl, hb3, ⟨v3, hR3, hv3⟩, hg3⟩
    have hH3 := HX.out.2.1.far (by omega) hg3
    have hM3 := HX.out.2.2.1.kept hg3 (fun e => by injection e; omega)
    have hI3 := HX.out.2.2.2.kept hg3 (fun e => by injection e; omega)
    have hgw3 := grown_then' (grown_of R HX.out.1) hg3
    obtain ⟨_, y3, e3, rfl, _⟩ := id hv3
    have q0 : w3.cell? ⟨R, 0, none⟩ = some (.slice y3 r2.length e3) := cell_of_row _ _ 0 _ _ _ hR3
    have q1 : w3.cell? ⟨R, 1, none⟩ = some (.int .i64 d) := cell_of_row _ _ 1 _ _ _ hR3
    have q2 : w3.cell? ⟨R, 2, none⟩ = some (.map (some M)) := cell_of_row _ _ 2 _ _ _ hR3
    have hRead := fun (vv : Value) (hvv : ∃ y n e, vv = .slice y n e) => HRD.out w3 vv x3 m3 c3 hvv (by have h1 := hg3.size; have h2 := HX.out.1.size; omega) hH3 hM3 hb3
    have HR := Lib.hid hRead
    have H3 := Lib.hid (And.intro hR3 (And.intro hv3 (And.intro hI3 (And.intro hgw3 hg3))))
    clear hb3 hR3 hv3 hg3 hH3 hM3 hI3 hgw3 hRead
    refine hK _ _ ?_
    clear hK K
    refine wpAnyIn_ready (rs := [0]) (by kernel_rfl) (by simp) ?_
    refine AllReadyIn.cons rfl (fun K hK => ?_) (AllReadyIn.nil)
    go_simp
    refine hK _ _ ?_
    clear hK K
    refine wpAnyIn_ready (rs := [3]) (by kernel_rfl) (by simp) ?_
    refine AllReadyIn.cons rfl (fun K hK => ?_) (AllReadyIn.nil)
    go_simp
    refine ⟨trivial, (callsIn_wide.2 (HR.out (.slice y3 r2.length e3) ⟨_, _, _, rfl⟩)).mono ?_⟩
    rintro e w4 ⟨v5, rfl, hO5, h4⟩
    obtain ⟨b5, x5, m5, c5, y5, n5, d5, rfl⟩ := hO5.is
    have hI4 := H3.out.2.2.1.keep h4
    have i0 := cell_of_row w4 _ 0 _ _ _ hI4
    have i1 := cell_of_row w4 _ 1 _ _ _ hI4
    have i2 := cell_of_row w4 _ 2 _ _ _ hI4
    have f0 := frozen_of_row w4 _ 0 _ _ hI4
    have f1 := frozen_of_row w4 _ 1 _ _ hI4
    have f2 := frozen_of_row w4 _ 2 _ _ hI4
    have hG := grown_set' (grown_set' (grown_set' (grown_refl w4 w.heap.size) 0 (.bool b5)) 1 (.slice x5 m5 c5)) 2 (.slice y5 n5 d5)
    have hs3 : w.heap.size + 1 ≤ w3.heap.size := by have h1 := H3.out.2.2.2.2.size; have h2 := HX.out.2.2.2.lt; omega
    have HE := Lib.hid (show ItP (fun b => w.heap.size ≤ b) _ t (itW b5 x5 m5 c5 y5 n5 d5) ∧ (∃ v2, RB _ R v2 d M ∧ Bt B _ v2 r2) ∧ w.grownBy _ (some R) from ⟨(hO5.grown hG (fun r e h => by cases e; omega)).mono (fun b h _ => by omega), ⟨_, (H3.out.1.keep h4).kept hG (fun e => by injection e; omega), (H3.out.2.1.new h4).far hG (by omega)⟩, grown_above (grown_then H3.out.2.2.2.1 h4) hG (Nat.le_refl _)⟩)
    clear hI4 hG hO5 h4 q0 q1 q2 r0 r1 r2'
    refine hK _ _ ?_
    clear hK K
    refine wpAnyIn_ready (rs := [4]) (by kernel_rfl) (by simp) ?_
    refine AllReadyIn.cons rfl (fun K hK => ?_) (AllReadyIn.nil)
    go_simp
    refine hK _ _ ?_
    clear hK K
    refine wpAnyIn_done (by kernel_rfl) ?_ _
    simp only [Exit.then]
    go_wp2_with fail
    exact bodyPost_ret (v := itW b5 x5 m5 c5 y5 n5 d5) (by simp [results, Tryd.results35, go_sem, i0, i1, i2]) rfl ⟨_, _, _, _, _, _, _, rfl, HE.out⟩

set_option maxRecDepth 100000 in
set_option maxHeartbeats 4000000 in
theorem first_tree (t : It) (B : Nat) (v : Value) (l : List Nat) (k : Nat) (body r2 : List Nat) (w : World) (hv : Bt B w v l) (hB : B ≤ w.heap.size) (hH : HD w) (hl : l.length ≤ 4096) (hcs : cutS l = some (k, body, r2))
    (hrd : ∀ M X vv x m c, (∃ y n e, vv = .slice y n e) → w.heap.size ≤ X.heap.size → HD X → KM X M → Bt B X (.slice x m c) body → Calls Tryd.prog 36 #[.agg #[vv, .int .i64 0, .map (some M)], .agg #[.int .i64 k, .slice x m c], .int .i64 1] X fun e w' => ∃ v, e = .returned v ∧ ItP (fun b => X.heap.size ≤ b) w' t v ∧ Below X.heap.size X w') :
    Calls Tryd.prog 16 #[v] w fun e w' => ∃ b x m c y n d, e = .returned (.tuple #[itW b x m c y n d, .int .i64 (l.length - r2.length : Nat), .int .i64 0]) ∧ ItP (fun b => w.heap.size ≤ b) w' t (itW b x m c y n d) ∧ Below w.heap.size w w' := by
  have hmf : ∀ (fn : Fn) (first cap : Array Value) (w : World), (Instr.makeFunc fn first cap).run Tryd.prog w = .ok (.func fn first cap) w := fun _ _ _ _ => rfl
  obtain ⟨_, x, c, rfl, _⟩ := id hv
  have g : ¬ (4096 : Int) < (l.length : Int) := by omega
  have hA := Blk.new w 25 #[.bool false, .slice none 0 0, .slice none 0 0]
  have hW := balloc (Below.refl w.heap.size w) (.cells #[.bool false, .slice none 0 0, .slice none 0 0] 25)
  have HX := Lib.hid (And.intro hA (And.intro hW (And.intro (hv.new hW) (hH.keep hW))))
  have hgl := hH.lt
  have HRD := Lib.hid hrd
  clear hrd
  have hrl := (cut_len hcs).2
  have hsub : IntKind.i64.wrap ((l.length : Int) - (r2.length : Int)) = ((l.length - r2.length : Nat) : Int) := (IntWalk.i64_in _ (by omega)).trans (by omega)
  clear hA hW hv hH
  obtain ⟨q, hq⟩ : ∃ q, l.length = q := ⟨_, rfl⟩
  have HQ := Lib.hid hq
  rw [hq] at g hl HX hrl hsub ⊢
  clear hq
  go_enter Tryd.func16, Tryd.ntmps16
  go_wp2_with fail
  refine (kinds_any _).mono ?_
  rintro e w1 ⟨M, rfl, hMw, hM, h1⟩
  obtain ⟨hA, hW, hb, hH⟩ := HX.out
  have hst := balloc (Below.refl w1.heap.size w1) (.cells #[.slice x q c, .int .i64 0, .map (some M)] 68)
  have hRb := Blk.new w1 68 #[.slice x q c, .int .i64 0, .map (some M)]
  have hA1 := (hA.keep h1).keep hst
  have hW1 := bstep (bstep hW h1) hst
  have hb1 := (hb.new h1).new hst
  have hH1 := (hH.keep h1).keep hst
  have hM1 := hM.keep hst
  have hMl : M < w1.heap.size := (Array.getElem?_eq_some_iff.1 hM).1
  have hwl : w.heap.size < w1.heap.size := by have := (hA.keep h1).lt; exact this
  obtain ⟨W2, hW2⟩ : ∃ W2, w1.alloc (.cells #[.slice x q c, .int .i64 0, .map (some M)] 68) = W2 := ⟨_, rfl⟩
  rw [hW2] at hst hRb hA1 hW1 hb1 hH1 hM1
  have hRl : w1.heap.size < W2.heap.size := hRb.lt
  obtain ⟨R, hR⟩ : ∃ R, w1.heap.size = R := ⟨_, rfl⟩
  rw [hR] at hRb hRl hMl hwl
  have hRB : RB W2 R (.slice x q c) 0 M := hRb
  have hAtt := attempti_ret R W2 hRl (fun v X => ItP (fun b => W2.heap.size + 2 ≤ b) X t v ∧ ∃ v2, RB X R v2 0 M ∧ Bt B X v2 r2)
    (fun wr hwr hsz => ((first1_tree t B R _ l 0 M k body r2 wr (hRB.keep hwr) (hb1.new hwr) (by omega) (hH1.keep hwr) (by omega) (hM1.keep hwr) (by omega) (by rw [HQ.out]; exact hl) hcs (fun X vv x m c h1 h2 h3 h4 h5 => HRD.out M X vv x m c h1 (by have := hwr.size; omega) h3 h4 h5)).mono (by
      rintro e w' ⟨b, x, m, c, y, n, d, rfl, hO, hr, hg⟩
      exact ⟨b, x, m, c, y, n, d, rfl, ⟨hO.mono (fun b h _ => by omega), hr⟩, hg⟩)))
    (fun v X Y g h hg he => by
      obtain ⟨hO, v2, h2, h3⟩ := h
      have hge : W2.heap.size ≤ g ∧ g < W2.heap.size + 2 := by omega
      exact ⟨hO.grown hg (fun r e h => by cases e; omega), v2, h2.kept hg (fun e => by injection e; omega), h3.far hg (by omega)⟩)
  have HAT := Lib.hid hAtt
  have H2 := Lib.hid (And.intro hA1 (And.intro hW1 hRl))
  clear hAtt hA hW hb hH hst hRb hA1 hW1 hb1 hH1 hM1 hRB hM h1 HX
  go_wp2_with fail
  refine HAT.out.mono ?_
  rintro e w3 ⟨b, x3, m3, c3, y3, n3, d3, rfl, ⟨hO, v2, hRB, hv2⟩, hg⟩
  have hst := balloc (Below.refl w3.heap.size w3) (.cells #[.bool b, .slice x3 m3 c3, .slice y3 n3 d3] 25)
  have hT := Blk.new w3 25 #[.bool b, .slice x3 m3 c3, .slice y3 n3 d3]
  have hA3 := (H2.out.1.kept hg (fun e => by injection e; omega)).keep hst
  have hR3 := hRB.keep hst
  have hgw : Below w.heap.size w w3 := H2.out.2.1.grown hg H2.out.2.1.size (fun k e => by cases e; omega)
  have hW3 := bstep hgw hst
  have hO3 : ItP (fun b => w.heap.size + 1 ≤ b) _ t (itW b x3 m3 c3 y3 n3 d3) := (hO.new hst).mono (fun b h _ => by omega)
  obtain ⟨_, y2, e2, rfl, _⟩ := hv2
  obtain ⟨p, hp⟩ : ∃ p, r2.length = p := ⟨_, rfl⟩
  rw [hp] at hsub hrl hR3
  have hHP := Lib.hid hp
  have H3 := Lib.hid (And.intro hT (And.intro hA3 (And.intro hR3 (And.intro hW3 hO3))))
  clear hst hT hA3 hR3 hgw hW3 hO3 hO hRB hg H2 HAT hp hR hW2
  clear hB hcs hrl
  go_wp2_with fail
  have hW4 : w3.alloc (.cells #[.bool b, .slice x3 m3 c3, .slice y3 n3 d3] 25) = w3.alloc (.cells #[.bool b, .slice x3 m3 c3, .slice y3 n3 d3] 25) := rfl
  obtain ⟨W4, hWW⟩ : ∃ W4, w3.alloc (.cells #[.bool b, .slice x3 m3 c3, .slice y3 n3 d3] 25) = W4 := ⟨_, rfl⟩
  rw [hWW] at H3 ⊢
  clear hWW hW4
  generalize w3.heap.size = gt at H3 ⊢
  obtain ⟨hT, hA, hRR, hW, hO⟩ := H3.out
  have hdr : Below W4.heap.size W4 W4.drew := (Below.refl _ _).drew
  have t0 : W4.drew.cell? ⟨gt, 0, none⟩ = some (.bool b) := cell_of_row _ _ 0 _ _ _ (hT.keep hdr)
  have t1 : W4.drew.cell? ⟨gt, 1, none⟩ = some (.slice x3 m3 c3) := cell_of_row _ _ 1 _ _ _ (hT.keep hdr)
  have t2 : W4.drew.cell? ⟨gt, 2, none⟩ = some (.slice y3 n3 d3) := cell_of_row _ _ 2 _ _ _ (hT.keep hdr)
  have u0 : W4.drew.cell? ⟨R, 0, none⟩ = some (.slice y2 p e2) := cell_of_row _ _ 0 _ _ _ (hRR.keep hdr)
  have a0 : W4.drew.cell? ⟨w.heap.size, 0, none⟩ = some (.bool false) := cell_of_row _ _ 0 _ _ _ (hA.keep hdr)
  have a1 : W4.drew.cell? ⟨w.heap.size, 1, none⟩ = some (.slice none 0 0) := cell_of_row _ _ 1 _ _ _ (hA.keep hdr)
  have a2 : W4.drew.cell? ⟨w.heap.size, 2, none⟩ = some (.slice none 0 0) := cell_of_row _ _ 2 _ _ _ (hA.keep hdr)
  have f0 : W4.drew.frozen? ⟨w.heap.size, 0, none⟩ = false := frozen_of_row _ _ 0 _ _ (hA.keep hdr)
  have f1 : W4.drew.frozen? ⟨w.heap.size, 1, none⟩ = false := frozen_of_row _ _ 1 _ _ (hA.keep hdr)
  have f2 : W4.drew.frozen? ⟨w.heap.size, 2, none⟩ = false := frozen_of_row _ _ 2 _ _ (hA.keep hdr)
  have v0 : W4.cell? ⟨R, 0, none⟩ = some (.slice y2 p e2) := cell_of_row _ _ 0 _ _ _ hRR
  have s0 : W4.cell? ⟨gt, 0, none⟩ = some (.bool b) := cell_of_row _ _ 0 _ _ _ hT
  have s1 : W4.cell? ⟨gt, 1, none⟩ = some (.slice x3 m3 c3) := cell_of_row _ _ 1 _ _ _ hT
  have s2 : W4.cell? ⟨gt, 2, none⟩ = some (.slice y3 n3 d3) := cell_of_row _ _ 2 _ _ _ hT
  have b0 : W4.cell? ⟨w.heap.size, 0, none⟩ = some (.bool false) := cell_of_row _ _ 0 _ _ _ hA
  have g0 : W4.frozen? ⟨w.heap.size, 0, none⟩ = false := frozen_of_row _ _ 0 _ _ hA
  have b1 : W4.cell? ⟨w.heap.size, 1, none⟩ = some (.slice none 0 0) := cell_of_row _ _ 1 _ _ _ hA
  have g1 : W4.frozen? ⟨w.heap.size, 1, none⟩ = false := frozen_of_row _ _ 1 _ _ hA
  have b2 : W4.cell? ⟨w.heap.size, 2, none⟩ = some (.slice none 0 0) := cell_of_row _ _ 2 _ _ _ hA
  have g2 : W4.frozen? ⟨w.heap.size, 2, none⟩ = false := frozen_of_row _ _ 2 _ _ hA
  have hG := grown_set' (grown_set' (grown_set' (grown_refl W4.drew w.heap.size) 0 (.bool b)) 1 (.slice x3 m3 c3)) 2 (.slice y3 n3 d3)
  have HE := Lib.hid (And.intro (show ItP (fun b => w.heap.size ≤ b) _ t (itW b x3 m3 c3 y3 n3 d3) from ((hO.new hdr).grown hG (fun r e h => by cases e; omega)).mono (fun b h _ => by omega)) (step_world (bstep hW hdr) hG (Nat.le_refl _) (by omega)))
  clear hT hA hRR hW hO hdr hG H3
  go_region
  all_goals
    go_wp2_with fail
    exact bodyPost_ret (v := .tuple #[itW b x3 m3 c3 y3 n3 d3, .int .i64 ((q - p : Nat) : Int), .int .i64 0]) (by simp [results, Tryd.results16, go_sem, b0, b1, b2]) rfl ⟨_, _, _, _, _, _, _, by rw [hHP.out], HE.out⟩

set_option maxRecDepth 100000 in
set_option maxHeartbeats 4000000 in
theorem decode_fits (t : It) (y : Option Addr) (q e : Nat) (w : World)
    (hF : ∀ X, Below w.heap.size w X → Calls Tryd.prog 16 #[.slice y q e] X fun e w' => ∃ b x1 m1 c1 x2 m2 c2, e = .returned (.tuple #[itW b x1 m1 c1 x2 m2 c2, .int .i64 q, .int .i64 0]) ∧ ItP (fun b => X.heap.size ≤ b) w' t (itW b x1 m1 c1 x2 m2 c2) ∧ Below X.heap.size X w') :
    Calls Tryd.prog 13 #[.slice y q e] w fun e w' => ∃ b x1 m1 c1 x2 m2 c2, e = .returned (.tuple #[itW b x1 m1 c1 x2 m2 c2, .int .i64 0]) ∧ ItP (fun b => w.heap.size ≤ b) w' t (itW b x1 m1 c1 x2 m2 c2) ∧ Below w.heap.size w w' := by
  have hA := Blk.new w 25 #[.bool false, .slice none 0 0, .slice none 0 0]
  have hW := balloc (Below.refl w.heap.size w) (.cells #[.bool false, .slice none 0 0, .slice none 0 0] 25)
  have hC := Lib.hid (hF _ hW)
  have HX := Lib.hid (And.intro hA hW)
  clear hA hW hF
  go_enter Tryd.func13, Tryd.ntmps13
  go_wp2_with fail
  refine hC.out.mono ?_
  rintro e w3 ⟨b, x1, m1, c1, x2, m2, c2, rfl, hO, h1⟩
  have hst := balloc (Below.refl w3.heap.size w3) (.cells #[.bool b, .slice x1 m1 c1, .slice x2 m2 c2] 25)
  have hA3 := (HX.out.1.keep h1).keep hst
  have hW3 := bstep (bstep HX.out.2 h1) hst
  have a0 := cell_of_row _ _ 0 _ _ _ hA3
  have a1 := cell_of_row _ _ 1 _ _ _ hA3
  have a2 := cell_of_row _ _ 2 _ _ _ hA3
  have f0 := frozen_of_row _ _ 0 _ _ hA3
  have f1 := frozen_of_row _ _ 1 _ _ hA3
  have f2 := frozen_of_row _ _ 2 _ _ hA3
  have hG := grown_set' (grown_set' (grown_set' (grown_refl (w3.alloc (.cells #[.bool b, .slice x1 m1 c1, .slice x2 m2 c2] 25)) w.heap.size) 0 (.bool b)) 1 (.slice x1 m1 c1)) 2 (.slice x2 m2 c2)
  have hOk : ItP (fun b => w.heap.size ≤ b) _ t (itW b x1 m1 c1 x2 m2 c2) := ((hO.new hst).grown hG (fun r e h => by cases e; simp at h; omega)).mono (fun b h _ => by simp at h; omega)
  have HE := Lib.hid (And.intro hOk (step_world hW3 hG (Nat.le_refl _) (by omega)))
  have k0 : (w3.alloc (.cells #[.bool b, .slice x1 m1 c1, .slice x2 m2 c2] 25)).cell? ⟨w3.heap.size, 0, none⟩ = some (.bool b) := cell_of_row _ _ 0 _ _ _ (Blk.new w3 25 #[.bool b, .slice x1 m1 c1, .slice x2 m2 c2])
  have hge : ¬ (q : Int) < (q : Int) := by omega
  clear hst hA3 hW3 hG h1 HX hC hO hOk
  go_wp2_with fail
  exact bodyPost_ret (v := .tuple #[itW b x1 m1 c1 x2 m2 c2, .int .i64 0]) (by simp [results, Tryd.results13, go_sem, a0, a1, a2]) rfl ⟨_, _, _, _, _, _, _, rfl, HE.out⟩

/-- First of an item's bytes and of what is behind. -/
theorem first_laT (t : It) (B : Nat) (v : Value) (r : List Nat) (w : World) (hv : Bt B w v (laT 8 t ++ r)) (hB : B ≤ w.heap.size) (hH : HD w) (hsm : smT t) (hr : rtB 8 t = true) (hl : (laT 8 t ++ r).length ≤ 4096) :
    Calls Tryd.prog 16 #[v] w fun e w' => ∃ b x m c y n d, e = .returned (.tuple #[itW b x m c y n d, .int .i64 ((laT 8 t).length : Nat), .int .i64 0]) ∧ ItP (fun b => w.heap.size ≤ b) w' t (itW b x m c y n d) ∧ Below w.heap.size w w' := by
  have hll : (laT 8 t).length ≤ 4096 := by rw [List.length_append] at hl; omega
  have h := first_tree t B v (laT 8 t ++ r) (kT t) (boT 8 t) r w hv hB hH hl (cut_laT 8 t r hr (by omega)) (fun M X vv x m c h1 h2 h3 h4 h5 => by
    obtain ⟨_, x', c', he, _⟩ := id h5
    injection he with e1 e2 e3
    subst e2
    exact read_tree 8 (by omega) t vv x c B 0 M X h1 (Nat.le_trans hB h2) (Nat.lt_of_lt_of_le hH.lt h2) h3 h4 hsm hr hll h5)
  rw [show (laT 8 t ++ r).length - r.length = (laT 8 t).length by rw [List.length_append]; omega] at h
  exact h
/-- Decode of an item's bytes. -/
theorem decode_laT (t : It) (B : Nat) (v : Value) (w : World) (hv : Bt B w v (laT 8 t)) (hB : B ≤ w.heap.size) (hH : HD w) (hsm : smT t) (hr : rtB 8 t = true) (hl : (laT 8 t).length ≤ 4096) :
    Calls Tryd.prog 13 #[v] w fun e w' => ∃ b x m c y n d, e = .returned (.tuple #[itW b x m c y n d, .int .i64 0]) ∧ ItP (fun b => w.heap.size ≤ b) w' t (itW b x m c y n d) ∧ Below w.heap.size w w' := by
  obtain ⟨_, y, e, rfl, _⟩ := id hv
  refine decode_fits t y (laT 8 t).length e w (fun X hX => ?_)
  have hv' : Bt B X (.slice y (laT 8 t).length e) (laT 8 t ++ []) := by rw [List.append_nil]; exact hv.new hX
  exact first_laT t B _ [] X hv' (Nat.le_trans hB hX.size) (hH.keep hX) hsm hr (by rw [List.append_nil]; exact hl)
end Go.Proofs.YtjmfnafbjfceoaaDoor

