/- Texts laid into one: Qc. -/
import Derived.Test.YtjmfnafbjfceoaaDoorIp
import Derived.Lib.AppendZeros
/- item: Grow of nil, Concat of own rows. -/
namespace Go.Proofs.YtjmfnafbjfceoaaDoor
open Go.RowKit Go.Shelf
attribute [local irreducible] lb wdG byA byC heL
set_option maxRecDepth 100000 in
set_option maxHeartbeats 2000000 in
theorem grow_nil (n : Nat) (hn : n ≤ 4096) (w : World) :
    Calls Tryd.prog 82 #[.slice none 0 0, .int .i64 n] w fun e w' => ∃ x c, e = .returned (.slice x 0 c) ∧ Ow w' w.heap.size (.slice x 0 c) [] ∧ Below w.heap.size w w' := by
  obtain ⟨i0, hi, hz0, hz1, hz2⟩ := info_parts' infoU8
  by_cases h0 : n = 0
  · subst h0
    go_enter Tryd.func82, Tryd.ntmps82
    go_wp2_with fail
    go_ret
    exact ⟨_, _, rfl, Ow.nil _ _, Below.refl _ _⟩
  · have hr := Lib.run_append_nil_zeros (P := Tryd.prog) w 22 3 22 5 i0 (.int .u8 0) .i64 .i64 (by kernel_rfl) (by kernel_rfl) hi hz0 n (by omega) (by omega) (by omega) (by rw [hz2]; omega)
    have g0 : (0 : Int) < n := by omega
    have g1 : ¬ (n : Int) < 0 := by omega
    have hcap := grownCap_ge w n 0 5
    have hcm := grownCap_le_maxLen w n 0 5 (by unfold maxLen; omega)
    obtain ⟨G, hG⟩ : ∃ G, grownCap w n 0 5 = G := ⟨_, rfl⟩
    rw [hG] at hr hcap hcm
    have hO : Ow (w.drew.alloc (.cells (Builtin.zeroCells (Value.int .u8 0).cells n ++ Builtin.zeroCells (Value.int .u8 0).cells (G - n)) 5)) w.heap.size (.slice (some ⟨w.heap.size, 0, none⟩) 0 G) [] := by
      refine ⟨by simp, ?_⟩
      have h := World.ownsRow_made (e := 5) (size := 1) (base := w.heap.size) w.drew (Builtin.zeroCells (Value.int .u8 0).cells n ++ Builtin.zeroCells (Value.int .u8 0).cells (G - n)) G (Nat.le_refl _) hcm (by rw [Array.size_append, size_zeroCells, size_zeroCells]; show n * 1 + (G - n) * 1 = G * 1; omega)
      exact h
    have hB : Below w.heap.size w (w.drew.alloc (.cells (Builtin.zeroCells (Value.int .u8 0).cells n ++ Builtin.zeroCells (Value.int .u8 0).cells (G - n)) 5)) := ((Below.refl _ w).drew).alloc (Nat.le_refl _) _
    have HF := Lib.hid (And.intro hO hB)
    obtain ⟨w2, hw2⟩ : ∃ w2, (w.drew.alloc (.cells (Builtin.zeroCells (Value.int .u8 0).cells n ++ Builtin.zeroCells (Value.int .u8 0).cells (G - n)) 5)) = w2 := ⟨_, rfl⟩
    rw [hw2] at hr HF
    clear hO hB hw2 hG hi hz0 hz1 hz2
    go_enter Tryd.func82, Tryd.ntmps82
    go_wp2_with (at_builtin; refine Lib.wpList_append_run _ rfl _ _ _ _ rfl _ _ rfl rfl _ _ hr ?_)
    all_goals (go_ret; exact ⟨_, _, rfl, HF.out⟩)

set_option maxRecDepth 100000 in
set_option maxHeartbeats 2000000 in
theorem concat_any (N : Nat) (x : Option Addr) (c : Nat) (sl : List Value) (yss : List (List Nat)) (base : Nat) (w : World) (hN : N ≤ 100000) (hr : w.ownsRow base 22 1 (.slice x N c) N sl) (hR : RwA w base sl yss) (ht : toL yss ≤ 4096) :
    Calls Tryd.prog 67 #[.slice x N c] w fun e w' => ∃ y m d, e = .returned (.slice y m d) ∧ Ow w' w.heap.size (.slice y m d) yss.flatten ∧ Below w.heap.size w w' := by
  have hNl : sl.length = N := by have := hr.1; omega
  have hyl : yss.length = N := by rw [← hR.1, hNl]
  have hat : ∀ (k : Nat), k < N → ∃ g ys y d, x = some ⟨g, 0, none⟩ ∧ g < w.heap.size ∧ yss[k]? = some ys ∧ w.cell? ⟨g, k, none⟩ = some (.slice y ys.length d) ∧ Ow w base (.slice y ys.length d) ys := fun k hk => by
    obtain ⟨v, hv⟩ : ∃ v, sl[k]? = some v := ⟨sl[k]'(by omega), by simp [hNl, hk]⟩
    obtain ⟨ys, hys⟩ : ∃ ys, yss[k]? = some ys := ⟨yss[k]'(by omega), by simp [hyl, hk]⟩
    have ho := hR.2 k v ys hv hys
    obtain ⟨y, d, rfl⟩ := ho.is
    rcases hr.2 with ⟨h, h0⟩ | ⟨g, cap, cur, h, _, hg, _⟩
    · omega
    · injection h with h1 h2 h3
      have hc := hr.cells (g := g) (by rw [h1]; rfl) k _ hv
      rw [Go.WideShapes.add_plain] at hc
      rw [Nat.zero_add] at hc
      exact ⟨g, ys, y, d, h1, (Array.getElem?_eq_some_iff.1 hg).1, hys, hc, ho⟩
  have HAT := Lib.hid hat
  have HY := Lib.hid hyl
  clear hat hr hR hNl hyl
  go_enter Tryd.func67, Tryd.ntmps67
  go_wp2_with fail
  go_loop [3, 11] (fun s i => ∃ k : Nat, k ≤ N ∧ i = .int .i64 (k : Int) ∧ s = .int .i64 (toL (yss.take k) : Nat)) (fun _ i => N - (intOf i).toNat)
  case atStart => exact ⟨0, by omega, rfl, by simp [toL]⟩
  case round =>
    obtain ⟨k, hk, rfl, rfl⟩ := hrel
    by_cases hlt : k < N
    · obtain ⟨g, ys, y, d, rfl, hg, hys, hc, ho⟩ := HAT.out k hlt
      have htk := toL_take yss k ys hys
      have htl := toL_le yss (k + 1)
      have hkI : (k : Int) < (N : Int) := by omega
      have hk0 : ¬ (k : Int) < 0 := by omega
      have g1 : IntKind.i64.wrap ((k : Int) + 1) = (k : Int) + 1 := IntWalk.i64_in _ (by omega)
      obtain ⟨t, htt⟩ : ∃ t, toL (yss.take k) = t := ⟨_, rfl⟩
      obtain ⟨u, huu⟩ : ∃ u, ys.length = u := ⟨_, rfl⟩
      have g2 : IntKind.i64.wrap ((t : Int) + (u : Int)) = ((t + u : Nat) : Int) := (IntWalk.i64_in _ (by omega)).trans (by omega)
      have g3 : ¬ ((t + u : Nat) : Int) < 0 := by omega
      rw [huu] at hc htk
      rw [htt] at htk ⊢
      have HT := Lib.hid htk
      clear htk htl htt huu ho hys
      go_wp2_with fail
      go_round
      case rel => exact ⟨k + 1, by omega, by go_num, by rw [HT.out]; go_num⟩
      case measure => simp [intOf]; omega
    · obtain rfl : k = N := by omega
      rw [show yss.take k = yss by rw [← HY.out, List.take_length]]
      obtain ⟨t, htt⟩ : ∃ t, toL yss = t := ⟨_, rfl⟩
      rw [htt] at ht ⊢
      have HT := Lib.hid htt
      clear htt
      go_wp2_with fail
      refine (grow_nil t ht w).mono ?_
      rintro e w1 ⟨y0, c0, rfl, hO0, h1⟩
      rename_i K hK _
      refine hK _ _ ?_
      clear hK K
      have H0 := Lib.hid (And.intro hO0 h1)
      clear hO0 h1
      go_wp2_with fail
      go_loopw [6, 27] (fun v i wr => ∃ j : Nat, j ≤ k ∧ i = .int .i64 (j : Int) ∧ (∃ y d, v = .slice y (toL (yss.take j)) d ∧ Ow wr w.heap.size (.slice y (toL (yss.take j)) d) (yss.take j).flatten) ∧ Below w.heap.size w wr) (fun _ i _ => k - (intOf i).toNat)
      case atStart => exact ⟨0, by omega, rfl, ⟨y0, c0, rfl, H0.out.1⟩, H0.out.2⟩
      case round =>
        clear H0
        obtain ⟨j, hj, rfl, ⟨y1, d1, rfl, hO⟩, hB⟩ := hrel
        by_cases hlt : j < k
        · obtain ⟨g, ys, y, d, rfl, hg, hys, hc, ho⟩ := HAT.out j hlt
          have htk := toL_take yss j ys hys
          have htl := toL_le yss (j + 1)
          have hfl : (yss.take j).flatten ++ ys = (yss.take (j + 1)).flatten := by rw [List.take_add_one, hys]; simp
          have hkI : (j : Int) < (k : Int) := by omega
          have hk0 : ¬ (j : Int) < 0 := by omega
          have g1 : IntKind.i64.wrap ((j : Int) + 1) = (j : Int) + 1 := IntWalk.i64_in _ (by omega)
          have hc2 : wr.cell? ⟨g, j, none⟩ = some (.slice y ys.length d) := (hB.cell (p := ⟨g, j, none⟩) hg).trans hc
          have hbt := (ho.bt.below (Nat.le_refl _) hB)
          have hTk := HT.out
          have hlen : (yss.take j).flatten.length = toL (yss.take j) := rfl
          obtain ⟨fl, hfl0⟩ : ∃ fl, (yss.take j).flatten = fl := ⟨_, rfl⟩
          rw [hfl0] at hO hfl hlen
          have HF := Lib.hid (And.intro hO (And.intro hbt (And.intro hB (And.intro hfl (And.intro htk (And.intro htl (And.intro hlen hTk)))))))
          clear hO hbt hB hfl htk htl hc ho hys hlen hTk hfl0
          obtain ⟨u, huu⟩ : ∃ u, ys.length = u := ⟨_, rfl⟩
          rw [huu] at hc2
          have HU := Lib.hid huu
          clear huu
          obtain ⟨q, hqq⟩ : ∃ q, toL (yss.take j) = q := ⟨_, rfl⟩
          rw [hqq] at HF ⊢
          have HQ := Lib.hid hqq
          clear hqq
          go_wp2_with (first
            | (at_builtin; refine wpList_app rfl _ _ rfl w.heap.size fl HF.out.1 w.heap.size ys (by rw [← HU.out]; exact HF.out.2.1) ?c1 ?c2 ?_)
            | fail)
          case c1 => have h := HF.out.2.2.2.2; omega
          case c2 => exact HF.out.2.2.1.size
          intro y2 c2 w3 hO3 hg3
          have hB3 := HF.out.2.2.1.grown hg3 HF.out.2.2.1.size (fun r e => (HF.out.1.2.lt r e).1)
          rw [HF.out.2.2.2.1] at hO3
          have HE := Lib.hid (And.intro hO3 hB3)
          clear hO3 hB3 hg3
          go_wp2_with fail
          have hq2 : fl.length + ys.length = toL (yss.take (j + 1)) := by have h := HF.out.2.2.2.2; omega
          rw [hq2] at HE ⊢
          exact ⟨⟨j + 1, by omega, by go_num, ⟨y2, c2, rfl, HE.out.1⟩, HE.out.2⟩, by simp [intOf]; omega⟩
        · obtain rfl : j = k := by omega
          have HE := Lib.hid (And.intro hO hB)
          clear hO hB
          go_wp2_with fail
          go_ret
          have hfl : yss.take j = yss := by rw [← HY.out, List.take_length]
          rw [hfl] at HE ⊢
          exact ⟨_, _, _, rfl, HE.out⟩
end Go.Proofs.YtjmfnafbjfceoaaDoor

/- item: joined; laid of lists. -/
namespace Go.Proofs.YtjmfnafbjfceoaaDoor
open Go.RowKit Go.Shelf
attribute [local irreducible] lb wdG byA byC heL
set_option maxRecDepth 100000 in
set_option maxHeartbeats 2000000 in
theorem joined_any (B : Nat) (x : Option Addr) (m c : Nat) (vs : List Value) (yss : List (List Nat)) (w : World) (hB : B ≤ w.heap.size) (hvl : vs.length ≤ 100000) (hlen : yss.length = vs.length) (htot : toL yss ≤ 4096) (hI : Its B w (.slice x m c) vs)
    (hL : ∀ (i : Nat) v ys, vs[i]? = some v → yss[i]? = some ys → ∀ X, Below w.heap.size w X → Calls Tryd.prog 28 #[v] X fun e w' => ∃ y m d, e = .returned (.slice y m d) ∧ Ow w' X.heap.size (.slice y m d) ys ∧ Below X.heap.size X w') :
    Calls Tryd.prog 49 #[.slice x m c] w fun e w' => ∃ y m d, e = .returned (.slice y m d) ∧ Ow w' w.heap.size (.slice y m d) yss.flatten ∧ Below w.heap.size w w' := by
  have hmf : ∀ (fn : Fn) (first cap : Array Value) (w : World), (Instr.makeFunc fn first cap).run Tryd.prog w = .ok (.func fn first cap) w := fun _ _ _ _ => rfl
  have hT := (Blk.new w 3 #[.int .i64 0]).alloc (.cells #[.slice x m c] 23)
  have hV := Blk.newS w (.cells #[.int .i64 0] 3) 23 #[.slice x m c]
  have hW := balloc (balloc (Below.refl w.heap.size w) (.cells #[.int .i64 0] 3)) (.cells #[.slice x m c] 23)
  have hM := Lib.hid (made_joined (w.heap.size + 1) w.heap.size B (.slice x m c) vs yss _ hB (by omega) hvl hlen htot hV hT (hI.new hW) (fun i v ys h1 h2 X hX _ => hL i v ys h1 h2 X (hW.trans hX)))
  have HW := Lib.hid hW
  have HT := Lib.hid htot
  clear hI hL hlen hT hV hW htot
  go_enter Tryd.func49, Tryd.ntmps49
  go_wp2_with fail
  refine (values_any x m c _).mono ?_
  rintro e w1 ⟨rfl, rfl⟩
  rename_i K hK
  refine hK _ _ ?_
  clear hK K
  rw [World.size_alloc]
  refine wpList_plain rfl fun K hK => ?_
  go_simp
  refine hK _ _ ?_
  clear hK K
  refine wpList_plain rfl fun K hK => ?_
  go_simp
  refine hM.out.mono ?_
  rintro e w2 ⟨x2, c2, sl, rfl, ho, hr, h2⟩
  refine hK _ _ ?_
  clear hK K hM
  have hC := Lib.hid (concat_any vs.length x2 c2 sl yss _ w2 hvl ho hr HT.out)
  have H2 := Lib.hid (HW.out.trans h2)
  clear ho hr h2 HW HT
  refine wpList_plain rfl fun K hK => ?_
  go_simp
  refine hC.out.mono ?_
  rintro e w3 ⟨y, q, d, rfl, hO, h3⟩
  refine hK _ _ ?_
  clear hK K hC
  have HF := Lib.hid (And.intro (hO.mono (show w.heap.size ≤ w2.heap.size from H2.out.size)) (H2.out.trans (h3.mono H2.out.size)))
  clear hO h3 H2
  go_wp2_with fail
  go_ret
  exact ⟨_, _, _, rfl, HF.out⟩

/-- A list's bytes. -/
def laL (yss : List (List Nat)) : List Nat := heL 192 (toL yss) ++ yss.flatten
set_option maxRecDepth 100000 in
set_option maxHeartbeats 2000000 in
theorem kindOf_list (x : Option Addr) (m c : Nat) (y : Option Addr) (n d : Nat) (w : World) :
    Calls Tryd.prog 51 #[.agg #[.bool true, .slice x m c, .slice y n d]] w fun e w' => e = .returned (.int .i64 2) ∧ Below w.heap.size w w' := by
  have hW := balloc (Below.refl w.heap.size w) (.cells #[.bool true, .slice x m c, .slice y n d] 25)
  go_enter Tryd.func51, Tryd.ntmps51
  go_wp2_with fail
  go_ret
  exact ⟨rfl, hW⟩
set_option maxRecDepth 100000 in
set_option maxHeartbeats 2000000 in
theorem laid_list (B : Nat) (bx : Option Addr) (bn bd : Nat) (x : Option Addr) (m c : Nat) (vs : List Value) (yss : List (List Nat)) (w : World) (hB : B ≤ w.heap.size) (hvl : vs.length ≤ 100000) (hlen : yss.length = vs.length) (htot : (laL yss).length ≤ 4096) (hI : Its B w (.slice x m c) vs) (hH : HD w)
    (hL : ∀ (i : Nat) v ys, vs[i]? = some v → yss[i]? = some ys → ∀ X, Below w.heap.size w X → Calls Tryd.prog 28 #[v] X fun e w' => ∃ y m d, e = .returned (.slice y m d) ∧ Ow w' X.heap.size (.slice y m d) ys ∧ Below X.heap.size X w') :
    Calls Tryd.prog 28 #[.agg #[.bool true, .slice bx bn bd, .slice x m c]] w fun e w' => ∃ y m d, e = .returned (.slice y m d) ∧ Ow w' w.heap.size (.slice y m d) (laL yss) ∧ Below w.heap.size w w' := by
  have hW := balloc (Below.refl w.heap.size w) (.cells #[.bool true, .slice bx bn bd, .slice x m c] 25)
  have ht : toL yss ≤ 4096 := by unfold laL toL at htot; simp only [List.length_append] at htot; unfold toL; omega
  have hJ := Lib.hid (joined_any B x m c vs yss _ (by rw [World.size_alloc]; omega) hvl hlen ht (hI.new hW) (fun i v ys h1 h2 X hX => hL i v ys h1 h2 X (bstep hW hX)))
  have HW := Lib.hid (And.intro hW (hH.keep hW))
  have hla : laL yss = heL 192 (toL yss) ++ yss.flatten := rfl
  have HLA := Lib.hid (And.intro hla htot)
  clear hL hI hlen hvl hW hH hla htot
  go_enter Tryd.func28, Tryd.ntmps28
  go_wp2_with fail
  refine hJ.out.mono ?_
  rintro e w1 ⟨y1, m1, d1, rfl, hO, h1⟩
  rename_i K hK
  refine hK _ _ ?_
  clear hK K hJ
  have hm : m1 = toL yss := by obtain ⟨x, c, e⟩ := hO.is; injection e
  subst hm
  have hI1 := (Blk.new w 25 #[.bool true, .slice bx bn bd, .slice x m c]).keep h1
  have k0 : w1.cell? ⟨w.heap.size, 0, none⟩ = some (.bool true) := cell_of_row w1 _ 0 _ _ _ hI1
  have k1 : w1.cell? ⟨w.heap.size, 1, none⟩ = some (.slice bx bn bd) := cell_of_row w1 _ 1 _ _ _ hI1
  have k2 : w1.cell? ⟨w.heap.size, 2, none⟩ = some (.slice x m c) := cell_of_row w1 _ 2 _ _ _ hI1
  have hW1 := bstep HW.out.1 h1
  have hH1 := HW.out.2.keep h1
  have hbt := hO.bt
  have H1 := Lib.hid (And.intro hW1 (And.intro hH1 hbt))
  obtain ⟨q, hq⟩ : ∃ q, toL yss = q := ⟨_, rfl⟩
  rw [hq] at H1 ht HLA ⊢
  have HQ := Lib.hid hq
  have g1 : ¬ (4096 : Int) < (q : Int) := by omega
  clear hW1 hH1 hbt hO h1 HW hI1 hq
  go_wp2_with fail
  refine (kindOf_list bx bn bd x m c w1).mono ?_
  rintro e w2 ⟨rfl, h2⟩
  rename_i K hK
  refine hK _ _ ?_
  clear hK K k0 k1 k2
  obtain ⟨hW1, hH1, hbt⟩ := H1.out
  have hho := Lib.hid (head_any 2 q (by omega) ht w2 (hH1.keep h2))
  have H2 := Lib.hid (And.intro (bstep hW1 h2) ((hbt.mono (Nat.le_refl _)).new h2))
  have hsz2 := (bstep hW1 h2).size
  have hsz1 := h2.size
  clear hW1 hH1 hbt h2 H1
  refine wpList_plain rfl fun K hK => ?_
  go_simp
  refine hK _ _ ?_
  clear hK K
  refine wpList_plain rfl fun K hK => ?_
  go_simp
  refine hK _ _ ?_
  clear hK K
  refine wpList_plain rfl fun K hK => ?_
  go_simp
  refine hho.out.mono ?_
  rintro e w3 ⟨x3, m3, c3, rfl, hO3, h3⟩
  refine hK _ _ ?_
  clear hK K hho
  rw [show hdN 2 = 192 from rfl] at hO3
  have hlen3 := heL_len 192 q (by omega)
  obtain ⟨hl, hhl⟩ : ∃ hl, heL 192 q = hl := ⟨_, rfl⟩
  rw [hhl] at hO3 hlen3 HLA
  obtain ⟨hW2, hb2⟩ := H2.out
  have hW3 := bstep hW2 h3
  have H3 := Lib.hid (And.intro hO3 (And.intro (hb2.new h3) hW3))
  have hsz3 := h3.size
  have hfl : yss.flatten.length = q := HQ.out
  have HFL := Lib.hid hfl
  clear hO3 hW2 hb2 h3 hW3 H2 hhl hfl
  go_wp2_with (first
      | (at_builtin; refine wpList_app rfl _ _ rfl w2.heap.size hl H3.out.1 w1.heap.size yss.flatten H3.out.2.1 ?c1 ?c2 ?_)
      | fail)
  case c1 => have h := HFL.out; omega
  case c2 => exact hsz3
  intro y c4 w4 hO4 hg4
  have hB4 := H3.out.2.2.grown hg4 (Nat.le_trans hsz2 hsz3) (fun r e => Nat.le_trans hsz2 (H3.out.1.2.lt r e).1)
  have hO5 := hO4.mono hsz2
  rw [← HLA.out.1] at hO5
  have hs : (List.map List.length yss).sum = q := by rw [← HFL.out, List.length_flatten]
  have hn : (laL yss).length = hl.length + q := by rw [HLA.out.1, List.length_append, HFL.out]
  have h4 := HLA.out.2
  rw [hn] at h4
  rw [hs] at hO5 ⊢
  obtain ⟨k, hk⟩ : ∃ k, hl.length + q = k := ⟨_, rfl⟩
  rw [hk] at hO5 h4 ⊢
  have h4' : ¬ (4096 : Int) < (k : Int) := by omega
  have HF := Lib.hid (And.intro hO5 hB4)
  clear hO4 hO5 hB4 hg4 hn HLA H3 hs hk
  go_wp2_with fail
  go_ret
  exact ⟨_, _, _, rfl, HF.out⟩
end Go.Proofs.YtjmfnafbjfceoaaDoor

/- item: Encode of what may be, where it fits and where it doesn't. -/
namespace Go.Proofs.YtjmfnafbjfceoaaDoor
open Go.RowKit Go.Shelf
attribute [local irreducible] lb wdG byA byC heL
/-- An item's value: three cells. -/
abbrev itW (b : Bool) (x : Option Addr) (m c : Nat) (y : Option Addr) (n d : Nat) : Value := .agg #[.bool b, .slice x m c, .slice y n d]

set_option maxRecDepth 100000 in
set_option maxHeartbeats 2000000 in
theorem encode1_fits (b : Bool) (x : Option Addr) (m c : Nat) (y : Option Addr) (n d : Nat) (B : Nat) (w : World) (P : Value → World → Prop) (hB : Blk w B 25 #[.bool b, .slice x m c, .slice y n d])
    (hL : Calls Tryd.prog 28 #[itW b x m c y n d] w fun e w' => ∃ y m d, e = .returned (.slice y m d) ∧ P (.slice y m d) w' ∧ Below w.heap.size w w') :
    Calls Tryd.prog 27 #[.pointer (some ⟨B, 0, none⟩)] w fun e w' => ∃ y m d, e = .returned (.slice y m d) ∧ P (.slice y m d) w' ∧ Below w.heap.size w w' := by
  have k0 : w.cell? ⟨B, 0, none⟩ = some (.bool b) := cell_of_row w B 0 _ _ _ hB
  have k1 : w.cell? ⟨B, 1, none⟩ = some (.slice x m c) := cell_of_row w B 1 _ _ _ hB
  have k2 : w.cell? ⟨B, 2, none⟩ = some (.slice y n d) := cell_of_row w B 2 _ _ _ hB
  clear hB
  go_enter Tryd.func27, Tryd.ntmps27
  go_wp2_with (refine hL.mono ?_; rintro e w1 ⟨y2, m2, d2, rfl, hp, h1⟩)
  go_ret
  exact ⟨y2, m2, d2, rfl, hp, h1⟩
set_option maxRecDepth 100000 in
set_option maxHeartbeats 2000000 in
theorem encode1_over (b : Bool) (x : Option Addr) (m c : Nat) (y : Option Addr) (n d : Nat) (B : Nat) (w : World) (hB : Blk w B 25 #[.bool b, .slice x m c, .slice y n d])
    (hL : Calls Tryd.prog 28 #[itW b x m c y n d] w fun e w' => e = .panicked [{ v := .iface 28 (.int .i64 3), recovered := false }] ∧ Below w.heap.size w w') :
    Calls Tryd.prog 27 #[.pointer (some ⟨B, 0, none⟩)] w fun e w' => e = .panicked [{ v := .iface 28 (.int .i64 3), recovered := false }] ∧ Below w.heap.size w w' := by
  have k0 : w.cell? ⟨B, 0, none⟩ = some (.bool b) := cell_of_row w B 0 _ _ _ hB
  have k1 : w.cell? ⟨B, 1, none⟩ = some (.slice x m c) := cell_of_row w B 1 _ _ _ hB
  have k2 : w.cell? ⟨B, 2, none⟩ = some (.slice y n d) := cell_of_row w B 2 _ _ _ hB
  clear hB
  go_enter Tryd.func27, Tryd.ntmps27
  go_wp2_with (refine hL.mono ?_; rintro e w1 ⟨rfl, h1⟩)
  exact ⟨rfl, rfl, h1⟩
set_option maxRecDepth 100000 in
set_option maxHeartbeats 2000000 in
theorem encode_fits (b : Bool) (x : Option Addr) (m c : Nat) (y : Option Addr) (n d : Nat) (l : List Nat) (w : World)
    (hM : ∀ X, Below w.heap.size w X → Calls Tryd.prog 25 #[itW b x m c y n d, .int .i64 1] X fun e w' => e = .returned (.bool true) ∧ Below X.heap.size X w')
    (hL : ∀ X, Below w.heap.size w X → Calls Tryd.prog 28 #[itW b x m c y n d] X fun e w' => ∃ y m d, e = .returned (.slice y m d) ∧ Ow w' X.heap.size (.slice y m d) l ∧ Below X.heap.size X w') :
    Calls Tryd.prog 10 #[itW b x m c y n d] w fun e w' => ∃ y m d, e = .returned (.tuple #[.slice y m d, .int .i64 0]) ∧ Ow w' w.heap.size (.slice y m d) l ∧ Below w.heap.size w w' := by
  have hmf : ∀ (fn : Fn) (first cap : Array Value) (w : World), (Instr.makeFunc fn first cap).run Tryd.prog w = .ok (.func fn first cap) w := fun _ _ _ _ => rfl
  have hI := Blk.new w 25 #[.bool b, .slice x m c, .slice y n d]
  have hW := balloc (Below.refl w.heap.size w) (.cells #[.bool b, .slice x m c, .slice y n d] 25)
  have hM1 := Lib.hid (hM _ hW)
  have HL := Lib.hid hL
  clear hM hL
  go_enter Tryd.func10, Tryd.ntmps10
  go_wp2_with fail
  refine hM1.out.mono ?_
  rintro e w1 ⟨rfl, h1⟩
  rename_i K hK
  refine hK _ _ ?_
  clear hK K
  have hI1 := hI.keep h1
  have hW1 := bstep hW h1
  have hA := attempt_ret ⟨w.heap.size, 0, none⟩ w1 (fun v X => Ow X (w1.heap.size + 1) v l)
    (fun wr hwr hlt => encode1_fits b x m c y n d _ wr (fun v X => Ow X (w1.heap.size + 1) v l) (hI1.keep hwr) ((HL.out wr (bstep hW1 hwr)).mono (by
      rintro e w' ⟨y, m, d, rfl, ho, hb2⟩
      exact ⟨y, m, d, rfl, ho.mono hlt, hb2⟩)))
    (fun v X Y h hg => h.kept hg (fun r e => by cases e; omega))
  have HA := Lib.hid hA
  have HW := Lib.hid hW1
  clear hA hI1 hW1 hI hW h1 hM1 HL
  go_wp2_with fail
  refine HA.out.mono ?_
  rintro e w2 ⟨v, rfl, ho, h2⟩
  rename_i K hK
  refine hK _ _ ?_
  clear hK K
  obtain ⟨y2, c2, rfl⟩ := ho.is
  have hs := HW.out.size
  have HX := Lib.hid (And.intro (ho.mono (show w.heap.size ≤ w1.heap.size + 1 by omega)) (bstep HW.out h2))
  clear HA HW ho h2 hs
  obtain ⟨q, hq⟩ : ∃ q, l.length = q := ⟨_, rfl⟩
  rw [hq] at HX ⊢
  clear hq
  go_wp2_with fail
  exact bodyPost_ret (v := .tuple #[.slice y2 q c2, .int .i64 0]) (by simp [results, Tryd.results10, go_sem]) rfl ⟨_, _, _, rfl, HX.out⟩
set_option maxRecDepth 100000 in
set_option maxHeartbeats 2000000 in
theorem encode_over (b : Bool) (x : Option Addr) (m c : Nat) (y : Option Addr) (n d : Nat) (w : World)
    (hM : ∀ X, Below w.heap.size w X → Calls Tryd.prog 25 #[itW b x m c y n d, .int .i64 1] X fun e w' => e = .returned (.bool true) ∧ Below X.heap.size X w')
    (hL : ∀ X, Below w.heap.size w X → Calls Tryd.prog 28 #[itW b x m c y n d] X fun e w' => e = .panicked [{ v := .iface 28 (.int .i64 3), recovered := false }] ∧ Below X.heap.size X w') :
    Calls Tryd.prog 10 #[itW b x m c y n d] w fun e w' => e = .returned (.tuple #[.slice none 0 0, .int .i64 3]) ∧ Below w.heap.size w w' := by
  have hmf : ∀ (fn : Fn) (first cap : Array Value) (w : World), (Instr.makeFunc fn first cap).run Tryd.prog w = .ok (.func fn first cap) w := fun _ _ _ _ => rfl
  have hI := Blk.new w 25 #[.bool b, .slice x m c, .slice y n d]
  have hW := balloc (Below.refl w.heap.size w) (.cells #[.bool b, .slice x m c, .slice y n d] 25)
  have hM1 := Lib.hid (hM _ hW)
  have HL := Lib.hid hL
  clear hM hL
  go_enter Tryd.func10, Tryd.ntmps10
  go_wp2_with fail
  refine hM1.out.mono ?_
  rintro e w1 ⟨rfl, h1⟩
  rename_i K hK
  refine hK _ _ ?_
  clear hK K
  have hI1 := hI.keep h1
  have hW1 := bstep hW h1
  have HA := Lib.hid (attempt_gives ⟨w.heap.size, 0, none⟩ 3 w1 (fun wr hwr => encode1_over b x m c y n d _ wr (hI1.keep hwr) (HL.out wr (bstep hW1 hwr))))
  have HW := Lib.hid hW1
  clear hI1 hW1 hI hW h1 hM1 HL
  go_wp2_with fail
  refine HA.out.mono ?_
  rintro e w2 ⟨rfl, h2⟩
  rename_i K hK
  refine hK _ _ ?_
  clear hK K
  have HX := Lib.hid (bstep HW.out h2)
  clear HW HA h2
  go_wp2_with fail
  exact bodyPost_ret (v := .tuple #[.slice none 0 0, .int .i64 3]) (by simp [results, Tryd.results10, go_sem]) rfl ⟨rfl, HX.out⟩

/-- Encode of bytes. -/
theorem encode_bytes (v : Value) (l : List Nat) (B : Nat) (w : World) (hv : Bt B w v l) (hl : (laB l).length ≤ 4096) (hH : HD w) :
    Calls Tryd.prog 10 #[itB v] w fun e w' => ∃ y m d, e = .returned (.tuple #[.slice y m d, .int .i64 0]) ∧ Ow w' w.heap.size (.slice y m d) (laB l) ∧ Below w.heap.size w w' := by
  obtain ⟨_, x, cap, rfl, _⟩ := id hv
  refine encode_fits false x l.length cap none 0 0 (laB l) w (fun X _ => mayBe_bytes _ _ _ _) (fun X hX => ?_)
  refine (laid_bytes _ l B X (hv.new hX) (by unfold laB at hl; simp at hl; omega) (hH.keep hX)).mono ?_
  rintro e w' ⟨h, _⟩
  exact h hl
theorem encode_bytes_over (v : Value) (l : List Nat) (B : Nat) (w : World) (hv : Bt B w v l) (hl0 : l.length ≤ 4096) (hl : 4096 < (laB l).length) (hH : HD w) :
    Calls Tryd.prog 10 #[itB v] w fun e w' => e = .returned (.tuple #[.slice none 0 0, .int .i64 3]) ∧ Below w.heap.size w w' := by
  obtain ⟨_, x, cap, rfl, _⟩ := id hv
  refine encode_over false x l.length cap none 0 0 w (fun X _ => mayBe_bytes _ _ _ _) (fun X hX => ?_)
  refine (laid_bytes _ l B X (hv.new hX) hl0 (hH.keep hX)).mono ?_
  rintro e w' ⟨_, h⟩
  exact h hl
end Go.Proofs.YtjmfnafbjfceoaaDoor

/- item: trees of items in memory; mayBe of any. -/
namespace Go.Proofs.YtjmfnafbjfceoaaDoor
open Go.RowKit Go.Shelf
attribute [local irreducible] lb wdG byA byC heL
/-- An item, whether or not it may be. -/
inductive It : Type
  | mk (b : Bool) (l : List Nat) (ts : List It) : It
/-- An item as it lies in blocks below B. -/
inductive ItA (B : Nat) (X : World) : It → Value → Prop
  | mk (b : Bool) (l : List Nat) (ts : List It) (v1 iv : Value) (vs : List Value) (h1 : Bt B X v1 l) (h2 : Its B X iv vs) (hl : vs.length = ts.length) (hN : vs.length ≤ 100000) (hs : ∀ (i : Nat) t v, ts[i]? = some t → vs[i]? = some v → ItA B X t v) : ItA B X (It.mk b l ts) (.agg #[.bool b, v1, iv])
theorem ItA.kept {B : Nat} {X Y : World} {t : It} {v : Value} (h : ItA B X t v) (hs : X.heap.size ≤ Y.heap.size) (hk : ∀ b, b < B → b < X.heap.size → Y.heap[b]? = X.heap[b]?) : ItA B Y t v := by
  induction h with
  | mk b l ts v1 iv vs h1 h2 hl hN _ ih => exact ItA.mk b l ts v1 iv vs (h1.kept hs hk) (h2.kept hs hk) hl hN ih
theorem ItA.new {B : Nat} {X Y : World} {t : It} {v : Value} (h : ItA B X t v) (k : Below X.heap.size X Y) : ItA B Y t v := h.kept k.size fun b _ hx => k.block b hx
theorem ItA.blw {B n : Nat} {X Y : World} {t : It} {v : Value} (h : ItA B X t v) (hB : B ≤ n) (k : Below n X Y) : ItA B Y t v := h.kept k.size fun b hb _ => k.block b (by omega)
theorem ItA.is {B : Nat} {X : World} {t : It} {v : Value} (h : ItA B X t v) : ∃ b x m c y n d, v = itW b x m c y n d := by
  cases h with
  | mk b l ts v1 iv vs h1 h2 hl hs =>
    obtain ⟨_, x, c, rfl, _⟩ := h1
    obtain ⟨y, d, rfl, _⟩ := h2
    exact ⟨b, x, _, c, y, _, d, rfl⟩
/-- May it be, so deep at most? -/
def rtB : Nat → It → Bool
  | 0, _ => false
  | d + 1, .mk b l ts => if b then l.isEmpty && ts.all (rtB d) else ts.isEmpty

set_option maxRecDepth 100000 in
set_option maxHeartbeats 4000000 in
theorem index_items (g : FuncId) (cap : Array Value) (eg : ∀ args w, (callFunc g args).run Tryd.prog w = .ok (.enter g args) w) (B : Nat) (iv : Value) (vs : List Value) (p : Nat → Bool) (w : World) (_hB : B ≤ w.heap.size) (hN : vs.length ≤ 100000) (hI : Its B w iv vs)
    (hF : ∀ (i : Nat) v, vs[i]? = some v → ∀ X, Below w.heap.size w X → Calls Tryd.prog g (#[v] ++ cap) X fun e w' => e = .returned (.bool (p i)) ∧ Below X.heap.size X w') :
    Calls Tryd.prog 66 #[iv, .func (.func g) #[] cap] w fun e w' => (∃ r : Int, e = .returned (.int .i64 r) ∧ decide (0 ≤ r) = (List.range vs.length).any p) ∧ Below w.heap.size w w' := by
  obtain ⟨x, c, rfl, hc1, hc2, hI⟩ := hI
  have HI := Lib.hid hI
  have HF := Lib.hid hF
  obtain ⟨N, hNN⟩ : ∃ N, vs.length = N := ⟨_, rfl⟩
  have HNN := Lib.hid hNN
  rw [hNN] at hN hc1 ⊢
  clear hI hF hNN
  go_enter Tryd.func66, Tryd.ntmps66
  go_wp2_with fail
  go_loopw [8] (fun i wr => ∃ k : Nat, i = .int .i64 (k : Int) ∧ k ≤ N ∧ (∀ j, j < k → p j = false) ∧ Below w.heap.size w wr) (fun i _ => N - (intOf i).toNat)
  case atStart => exact ⟨0, rfl, by omega, fun j h => by omega, Below.refl _ _⟩
  case round =>
    obtain ⟨k, rfl, hk, hno, hbl⟩ := hrel
    by_cases hlt : k < N
    · have hkI : (k : Int) < (N : Int) := by omega
      have hk0 : ¬ (k : Int) < 0 := by omega
      obtain ⟨v, hv⟩ : ∃ v, vs[k]? = some v := ⟨vs[k]'(by rw [HNN.out]; exact hlt), by simp [HNN.out, hlt]⟩
      obtain ⟨b, o, rfl, hb, hbx, hc⟩ := HI.out (fun e => by rw [e] at hv; simp at hv)
      obtain ⟨c1, x1, n1, d1, y1, m1, e1, hve, k0, k1, k2⟩ := hc k v hv
      have hb0 : b < w.heap.size := by omega
      have k0 := (hbl.cell (p := ⟨b, o + k * 3, none⟩) hb0).trans k0
      have k1 := (hbl.cell (p := ⟨b, o + k * 3 + 1, none⟩) hb0).trans k1
      have k2 := (hbl.cell (p := ⟨b, o + k * 3 + 2, none⟩) hb0).trans k2
      have g1 : IntKind.i64.wrap ((k : Int) + 1) = (k : Int) + 1 := IntWalk.i64_in _ (by omega)
      have hcall := HF.out k v hv wr hbl
      rw [hve] at hcall
      have HC := Lib.hid hcall
      have HK := Lib.hid (And.intro hno hbl)
      clear hc hv hve hno hbl hbx hb hb0 hcall
      go_wp2_with fail
      refine HC.out.mono ?_
      rintro e w2 ⟨rfl, h2⟩
      clear HC k0 k1 k2
      have hb2 := bstep HK.out.2 h2
      cases hp : p k with
      | true =>
        have hany : (List.range N).any p = true := List.any_eq_true.2 ⟨k, List.mem_range.2 hlt, hp⟩
        have HE := Lib.hid (And.intro hany hb2)
        clear hany hb2 h2 hp
        go_wp2_with fail
        go_ret
        exact ⟨⟨k, rfl, by rw [HE.out.1]; simp⟩, HE.out.2⟩
      | false =>
        have hno2 : ∀ j, j < k + 1 → p j = false := fun j hj => by
          by_cases h : j = k
          · rw [h]; exact hp
          · exact HK.out.1 j (by omega)
        have HE := Lib.hid (And.intro hno2 hb2)
        clear hno2 hb2 h2 hp
        go_wp2_with fail
        exact ⟨⟨k + 1, by go_num, by omega, HE.out⟩, by simp [intOf]; omega⟩
    · obtain rfl : k = N := by omega
      have hany : (List.range k).any p = false := by
        rw [List.any_eq_false]; intro j hj; rw [hno j (List.mem_range.1 hj)]; simp
      have HK := Lib.hid (And.intro hany hbl)
      clear hno hbl hany
      go_wp2_with fail
      go_ret
      exact ⟨⟨-1, rfl, by rw [HK.out.1]; rfl⟩, HK.out.2⟩

set_option maxRecDepth 100000 in
set_option maxHeartbeats 2000000 in
theorem contains_items (g : FuncId) (cap : Array Value) (eg : ∀ args w, (callFunc g args).run Tryd.prog w = .ok (.enter g args) w) (B : Nat) (iv : Value) (vs : List Value) (p : Nat → Bool) (w : World) (hB : B ≤ w.heap.size) (hN : vs.length ≤ 100000) (hI : Its B w iv vs)
    (hF : ∀ (i : Nat) v, vs[i]? = some v → ∀ X, Below w.heap.size w X → Calls Tryd.prog g (#[v] ++ cap) X fun e w' => e = .returned (.bool (p i)) ∧ Below X.heap.size X w') :
    Calls Tryd.prog 46 #[iv, .func (.func g) #[] cap] w fun e w' => e = .returned (.bool ((List.range vs.length).any p)) ∧ Below w.heap.size w w' := by
  have HC := Lib.hid (index_items g cap eg B iv vs p w hB hN hI hF)
  obtain ⟨x, c, rfl, _⟩ := hI
  clear hF
  go_enter Tryd.func46, Tryd.ntmps46
  go_wp2_with fail
  refine HC.out.mono ?_
  rintro e w2 ⟨⟨r, rfl, hr⟩, h2⟩
  rename_i K hK
  refine hK _ _ ?_
  clear hK K HC
  have HE := Lib.hid (And.intro hr h2)
  clear hr h2
  go_wp2_with fail
  go_ret
  exact ⟨by rw [← HE.out.1]; rfl, HE.out.2⟩

set_option maxRecDepth 100000 in
set_option maxHeartbeats 4000000 in
/-- Whether an item may be. -/
theorem mayBe_any (d : Nat) (hd : d ≤ 8) : ∀ (t : It) (v : Value) (B : Nat) (w : World), B ≤ w.heap.size → ItA B w t v →
    Calls Tryd.prog 25 #[v, .int .i64 (9 - d : Nat)] w fun e w' => e = .returned (.bool (rtB d t)) ∧ Below w.heap.size w w' := by
  have hmf : ∀ (fn : Fn) (first cap : Array Value) (w : World), (Instr.makeFunc fn first cap).run Tryd.prog w = .ok (.func fn first cap) w := fun _ _ _ _ => rfl
  induction d with
  | zero =>
    intro t v B w hB hv
    obtain ⟨b, x, m, c, y, n, d, rfl⟩ := hv.is
    have hW := balloc (balloc (Below.refl w.heap.size w) (.cells #[.bool b, .slice x m c, .slice y n d] 25)) (.cells #[.int .i64 9] 3)
    have HW := Lib.hid hW
    clear hW hv
    unfold rtB
    go_enter Tryd.func25, Tryd.ntmps25
    go_wp2_with fail
    go_ret
    exact ⟨rfl, HW.out⟩
  | succ d ih =>
    intro t v B w hB hv
    cases hv with
    | mk b l ts v1 iv vs h1 h2 hl hN hs =>
      obtain ⟨_, x, c, rfl, _⟩ := h1
      have hdd : ((9 - (d + 1) : Nat) : Int) = 8 - d := by omega
      have g0 : ¬ (8 : Int) < 8 - (d : Int) := by omega
      have g1 : IntKind.i64.wrap (8 - (d : Int) + 1) = ((9 - d : Nat) : Int) := (IntWalk.i64_in _ (by omega)).trans (by omega)
      rw [hdd]
      have hW := balloc (balloc (Below.refl w.heap.size w) (.cells #[.bool b, .slice x l.length c, iv] 25)) (.cells #[.int .i64 (8 - d)] 3)
      have hD := Blk.newS w (.cells #[.bool b, .slice x l.length c, iv] 25) 3 #[.int .i64 (8 - d)]
      have hI2 := h2.new hW
      have hs2 : ∀ (i : Nat) v, vs[i]? = some v → ∃ t, ts[i]? = some t ∧ ItA B w t v := fun i v hv => by
        have hi : i < vs.length := (List.getElem?_eq_some_iff.1 hv).1
        refine ⟨ts[i]'(by omega), by simp [show i < ts.length by omega], hs i _ v (by simp [show i < ts.length by omega]) hv⟩
      have hempty : ((vs.length : Int) == 0) = ts.isEmpty := by
        rw [Bool.eq_iff_iff]; simp [List.isEmpty_iff, ← List.length_eq_zero_iff]; omega
      obtain ⟨y, e, rfl, _⟩ := id h2
      have hrt : rtB (d + 1) (.mk b l ts) = if b then l.isEmpty && ts.all (rtB d) else ts.isEmpty := rfl
      have hC := contains_items 47 #[.pointer (some ⟨w.heap.size + 1, 0, none⟩)] (enters_of Tryd.func47 (by kernel_rfl) rfl) B _ vs (fun i => !((ts[i]?).map (rtB d)).getD true) _ (Nat.le_trans hB hW.size) hN hI2 (fun i v hv X hX => by
        obtain ⟨t, ht, hit⟩ := hs2 i v hv
        obtain ⟨b3, x3, m3, c3, y3, n3, d3, rfl⟩ := hit.is
        have hDX := hD.keep hX
        have hX2 := balloc (Below.refl X.heap.size X) (.cells #[.bool b3, .slice x3 m3 c3, .slice y3 n3 d3] 25)
        have hm := Lib.hid (ih (by omega) t _ B _ (Nat.le_trans hB (bstep (bstep hW hX) hX2).size) (hit.new (bstep (bstep hW hX) hX2)))
        have cD := cell_of_row _ _ 0 _ _ _ (hDX.alloc (.cells #[.bool b3, .slice x3 m3 c3, .slice y3 n3 d3] 25))
        have HX2 := Lib.hid hX2
        have hpi : (!((ts[i]?).map (rtB d)).getD true) = !(rtB d t) := by rw [ht]; rfl
        rw [hpi]
        clear hDX hX2 hpi ht hit hs2 hI2 hD hW hs h2 hempty hrt
        go_enter Tryd.func47, Tryd.ntmps47
        go_wp2_with fail
        refine hm.out.mono ?_
        rintro e w2 ⟨rfl, h2⟩
        have HE := Lib.hid (bstep HX2.out h2)
        clear h2 hm HX2
        go_wp2_with fail
        go_ret
        exact ⟨rfl, HE.out⟩)
      have hall : (!(List.range vs.length).any (fun i => !((ts[i]?).map (rtB d)).getD true)) = ts.all (rtB d) := by
        rw [Bool.eq_iff_iff]
        simp only [Bool.not_eq_true', List.any_eq_false, List.mem_range, List.all_eq_true]
        constructor
        · intro h t ht
          obtain ⟨i, hi⟩ := List.mem_iff_getElem?.1 ht
          have := h i (by rw [hl]; exact (List.getElem?_eq_some_iff.1 hi).1)
          rw [hi] at this
          simpa using this
        · intro h i hi
          have hi2 : i < ts.length := by omega
          rw [show ts[i]? = some ts[i] by simp [hi2]]
          simpa using h _ (List.getElem_mem hi2)
      have HC := Lib.hid hC
      have HALL := Lib.hid hall
      have HRT := Lib.hid hrt
      have HW := Lib.hid hW
      obtain ⟨q, hq⟩ : ∃ q, (List.range vs.length).any (fun i => !((ts[i]?).map (rtB d)).getD true) = q := ⟨_, rfl⟩
      rw [hq] at HC HALL
      clear hC hall hrt hW hD hI2 hs2 hs h2 hq ih
      obtain ⟨N, hNN⟩ : ∃ N, vs.length = N := ⟨_, rfl⟩
      rw [hNN] at hempty HC HW ⊢
      obtain ⟨ie, hie⟩ : ∃ ie, ts.isEmpty = ie := ⟨_, rfl⟩
      rw [hie] at hempty HRT
      clear hNN hl hie
      cases b with
      | false =>
        have h3 := HRT.out
        rw [if_neg (by simp)] at h3
        rw [h3]
        clear h3 HRT
        go_enter Tryd.func25, Tryd.ntmps25
        go_wp2_with fail
        go_ret
        exact ⟨rfl, HW.out⟩
      | true =>
        have h3 := HRT.out
        rw [if_pos rfl] at h3
        by_cases hl0 : l = []
        · subst hl0
          rw [h3, ← HALL.out, show ([] : List Nat).isEmpty = true from rfl, Bool.true_and]
          clear h3 HRT HALL hempty
          go_enter Tryd.func25, Tryd.ntmps25
          go_wp2_with fail
          refine HC.out.mono ?_
          rintro e w2 ⟨rfl, h2⟩
          have HE := Lib.hid (bstep HW.out h2)
          clear h2 HC HW
          go_wp2_with fail
          go_ret
          exact ⟨rfl, HE.out⟩
        · have hle : l.isEmpty = false := by simpa using hl0
          have hlI : ((l.length : Int) == 0) = false := by
            have : l.length ≠ 0 := fun e => hl0 (List.length_eq_zero_iff.1 e)
            simp; exact hl0
          rw [h3, hle, Bool.false_and]
          obtain ⟨k, hk⟩ : ∃ k, l.length = k := ⟨_, rfl⟩
          rw [hk] at hlI HW HC ⊢
          clear h3 HRT HALL hempty hle hl0 hk
          go_enter Tryd.func25, Tryd.ntmps25
          go_wp2_with fail
          go_ret
          exact ⟨rfl, HW.out⟩
end Go.Proofs.YtjmfnafbjfceoaaDoor

