/- big: begun, the walk. -/
import Derived.Test.YtjkniebedgiclaaDoorFu
namespace Go.Proofs.YtjkniebedgiclaaDoor
open Go.RowKit Go.Shelf

set_option maxRecDepth 100000 in
set_option maxHeartbeats 4000000 in
theorem begun_any (B : Nat) (mx : Option Addr) (mc : Nat) (l : List Nat) (w : World) (hl : l.length ≤ 128) (hv : Bto B w (.slice mx l.length mc) l) (hn : dz l ≠ []) :
    Calls Tryd.prog 22 #[.slice mx l.length mc] w fun e w' =>
      ∃ bf bl br n nr up R, e = .returned (mdv mx l.length mc bf bl br n nr up) ∧ n + n = nr ∧ up ≤ 63 ∧ Md w' bf bl n (bv l * 2 ^ up) ∧ Dk w' br nr R ∧ br ≠ bf ∧ br ≠ bl ∧ w.heap.size ≤ bf ∧ w.heap.size ≤ bl ∧ w.heap.size ≤ br ∧ Below w.heap.size w w' := by
  obtain ⟨ht, hm0, hV0⟩ := bv_top l hv.1 hn
  have hlz := dz_le l
  obtain ⟨W0, hW0⟩ : ∃ X, w.alloc (.cells #[.slice none 0 0, .slice none 0 0, .int .i64 0, .slice none 0 0, .slice none 0 0] 56) = X := ⟨_, rfl⟩
  have hB0 : Blk W0 w.heap.size 56 #[.slice none 0 0, .slice none 0 0, .int .i64 0, .slice none 0 0, .slice none 0 0] := by rw [← hW0]; exact Blk.new w _ _
  have hC0 : Below w.heap.size w W0 := by rw [← hW0]; exact (Below.refl _ w).alloc (Nat.le_refl _) _
  have hs0 : W0.heap.size = w.heap.size + 1 := by rw [← hW0]; simp
  have hD := Lib.hid (digits_any B _ l W0 hl (hv.new hC0))
  have HW0 := Lib.hid hW0
  have H0 := Lib.hid (And.intro hB0 (And.intro hC0 hs0))
  obtain ⟨ln, hln⟩ : ∃ n, l.length = n := ⟨_, rfl⟩
  obtain ⟨rn, hrn⟩ : ∃ n, (dz l).length = n := ⟨_, rfl⟩
  obtain ⟨V, hV⟩ : ∃ V, bv l = V := ⟨_, rfl⟩
  rw [hln] at hl hlz hD ⊢
  rw [hrn] at ht hm0 hlz hD
  rw [hV] at ht hV0 hD ⊢
  obtain ⟨m, hm⟩ : ∃ m, many rn = m + 1 := ⟨many rn - 1, by omega⟩
  have hm16 := many_le rn (by omega)
  obtain ⟨n, hnn⟩ : ∃ n, m + 1 = n := ⟨_, rfl⟩
  rw [hnn] at hm
  rw [hm] at ht hm16
  rw [show n - 1 = m by omega] at ht
  have hlt := bv_many (dz l) fun x hx => hv.1 x (dz_mem l x hx)
  rw [bv_dz, hV, hrn, hm] at hlt
  have HT := Lib.hid (And.intro ht (And.intro hV0 (And.intro hlt (And.intro hm hnn))))
  clear hv hn ht hm0 hV0 hlz hW0 hB0 hC0 hs0 hln hrn hV hlt
  go_enter Tryd.func22, Tryd.ntmps22
  go_wp2_with fail
  rw [HW0.out]
  refine hD.out.mono ?_
  rintro e w1 ⟨⟨v3, rfl, hO3⟩, hb1⟩
  have hdk := hO3.dk (fun e => by have := congrArg List.length e; rw [dgs_len, hm] at this; simp at this; omega)
  rw [dgs_len, hm] at hdk
  obtain ⟨g, c3, rfl, hc3, hg3, hd3⟩ := hdk
  have hd3 := hd3.congr (g := dg V) fun i hi => dgs_get V rn i (by omega)
  have c1 := hd3.cell m (by omega)
  have hx := hd3.dig m (by omega)
  obtain ⟨x, hxe⟩ : ∃ x, dg V m = x := ⟨_, rfl⟩
  rw [hxe] at c1 hx
  have hlz := Lib.hid (lz_any x hx (by rw [← hxe]; exact HT.out.1))
  have j1 : IntKind.i64.wrap (m : Int) = (m : Int) := IntWalk.i64_in _ (by omega)
  have j2 : (n : Int) - 1 = (m : Int) := by omega
  have j3 : (0 : Int) ≤ (m : Int) := by omega
  have j4 : (m : Int) < (n : Int) := by omega
  have hmk := make_u64 n (by omega)
  have H1 := Lib.hid (And.intro hd3 (And.intro hb1 (And.intro hg3 hxe)))
  clear hO3 hb1 hc3 hg3 hd3 hx hxe hm hnn
  go_wp2_with (first | (go_at_call 38; refine (hlz.out _).mono ?_; rintro e w2 ⟨⟨up, rfl, hup⟩, rfl⟩; have HUP := Lib.hid hup; clear hup) | fail)
  go_cut [6, 7] from 21 to 24 (fun a b wx => ∃ bf bl, a = .slice (some ⟨bf, 0, none⟩) n n ∧ b = .slice (some ⟨bl, 0, none⟩) n n ∧ bf ≠ bl ∧ Dk wx bf n (fun _ => 0) ∧ Dk wx bl n (fun _ => 0) ∧ w1.heap.size ≤ bf ∧ w1.heap.size ≤ bl ∧ Below w1.heap.size w1 wx)
  case first =>
    have hmade := Lib.hid (show Dk ((w1.alloc (.cells (Array.replicate n (.int .u64 0)) 72)).alloc (.cells (Array.replicate n (.int .u64 0)) 72)).drew w1.heap.size n (fun _ => 0) ∧ Dk ((w1.alloc (.cells (Array.replicate n (.int .u64 0)) 72)).alloc (.cells (Array.replicate n (.int .u64 0)) 72)).drew (w1.heap.size + 1) n (fun _ => 0) ∧ Below w1.heap.size w1 ((w1.alloc (.cells (Array.replicate n (.int .u64 0)) 72)).alloc (.cells (Array.replicate n (.int .u64 0)) 72)).drew from by
      have h1 := Dk.made w1 n
      have h2 := Dk.made (w1.alloc (.cells (Array.replicate n (.int .u64 0)) 72)) n
      rw [World.size_alloc] at h2
      exact ⟨h1.chg (M := fun _ => False) (Chg.alloc _ _ _).drew (fun h => h), h2, below_drew' (((Below.refl _ w1).alloc (Nat.le_refl _) _).alloc (by simp) _)⟩)
    go_region
    all_goals
      go_wp2_with fail
      go_meet
      first | exact ⟨_, _, rfl, rfl, by omega, hmade.out.1, hmade.out.2.1, by omega, by omega, hmade.out.2.2⟩ | exact ⟨_, _, rfl, rfl, by omega, hmade.out.2.1, hmade.out.1, by omega, by omega, hmade.out.2.2⟩
  case rest =>
    obtain ⟨bf, bl, rfl, rfl, hne, hf0, hl0, hgf, hgl, hb2⟩ := hcut
    obtain ⟨hd3, hb1, hg3, hxe⟩ := H1.out
    obtain ⟨hu, hv1, hv2⟩ := HUP.out
    have hg1 := hd3.lt
    have hW1 : w.heap.size + 1 ≤ w1.heap.size := by have := hb1.size; have := H0.out.2.2; omega
    have hd3' := hd3.keep hb2
    have hP : 2 ^ up < 18446744073709551616 := by
      have : 2 ^ up ≤ 2 ^ 63 := Nat.pow_le_pow_right (by omega) hu
      have e : (2 : Nat) ^ 63 = 9223372036854775808 := by decide
      omega
    have hAD := add_any (2 ^ up) bf 0 n n n g 0 n c3 (fun _ => 0) (dg V) hP (by omega) (by omega) (by omega) wc hf0 hd3' (by omega)
    obtain ⟨p, hp⟩ : ∃ p, 2 ^ up = p := ⟨_, rfl⟩
    have i2 : (2 : Int) ^ up = (p : Int) := by rw [← hp]; exact (Int.natCast_pow 2 up).symm
    rw [hp] at hAD hP
    have i3 : IntKind.u64.wrap (p : Int) = (p : Int) := wrapN _ hP
    have i4 : (0 : Int) ≤ (up : Int) := by omega
    have i5 : (up : Int) ≤ 64 := by omega
    have HAD := Lib.hid hAD
    have hB0 := (Blk.keep (Blk.keep H0.out.1 hb1) hb2)
    have hBW : Below w.heap.size w wc := (H0.out.2.1.trans (hb1.mono (by have := H0.out.2.2; omega))).trans (hb2.mono (by omega))
    have H2 := Lib.hid (And.intro hl0 (And.intro hB0 (And.intro hBW (And.intro hp (And.intro hne (And.intro hgf (And.intro hgl hW1)))))))
    have hbfl := hf0.lt
    have hbll := hl0.lt
    clear hne hf0 hl0 hgf hgl hb2 hd3 hb1 hg3 hxe hu hv1 hv2 hd3' hAD hp hB0 hBW hmk c1 j1 j2 j3 j4
    go_wp2_with (first | (go_at_call 39; refine HAD.out.mono ?_; rintro e wk ⟨cc, F, rfl, hcl, hdf, hout, hsum, hch⟩; have HA1 := Lib.hid (And.intro hcl (And.intro hdf (And.intro hsum hch))); clear hcl hdf hout hsum hch) | fail)
    obtain ⟨hcl, hdf, hsum, hch⟩ := HA1.out
    have hsum2 : dv F n = V * p := by
      have e0 : dv (fun i => F (0 + i)) n = dv F n := dv_congr n fun i _ => by rw [Nat.zero_add]
      have e1 : dv (fun i => dg V (0 + i)) n = V := by rw [dv_congr (g := dg V) n fun i _ => by rw [Nat.zero_add], dv_dg, Nat.mod_eq_of_lt HT.out.2.2.1]
      have e2 := up_fits (dg V) m up (fun i _ => dg_lt V i) HUP.out.1 (by rw [H1.out.2.2.2]; exact HUP.out.2.2)
      rw [HT.out.2.2.2.2, dv_dg, Nat.mod_eq_of_lt HT.out.2.2.1, H2.out.2.2.2.1] at e2
      rw [e0, e1, dv_zero n fun _ _ => rfl, Nat.zero_add, Nat.mul_comm] at hsum
      rcases Nat.eq_zero_or_pos cc with e | e
      · rw [e, Nat.mul_zero, Nat.add_zero] at hsum; rw [hsum, Nat.mul_comm]
      · have : B64 ^ n * 1 ≤ B64 ^ n * cc := Nat.mul_le_mul_left _ e
        rw [Nat.mul_comm p] at hsum
        omega
    have hl1 := H2.out.1.chg hch (Ne.symm H2.out.2.2.2.2.1)
    have hB1 := H2.out.2.1.chg hch (by have := H2.out; omega)
    have hchB : Below w.heap.size w wk := H2.out.2.2.1.trans (hch.below (by have := H2.out.2.2.1.size; omega) (fun k hk e => by have := H2.out; omega))
    have H3 := Lib.hid (And.intro hdf (And.intro hsum2 (And.intro hl1 (And.intro hB1 hchB))))
    clear hcl hdf hsum hch hsum2 hl1 hB1 hchB HA1
    go_loopw [8, 32] (fun s t wr => ∃ (i b : Nat) (L : Nat → Nat), s = .int .u64 b ∧ t = .int .i64 i ∧ i ≤ n ∧ b ≤ 1 ∧ Dk wr bl n L ∧ dv L i + dv F i = b * B64 ^ i ∧ Chg (fun k => k = bl) wk wr) (fun _ t _ => n - (intOf t).toNat)
    case atStart => exact ⟨0, 0, fun _ => 0, rfl, rfl, Nat.zero_le _, Nat.zero_le _, H3.out.2.2.1, rfl, Chg.refl _ _⟩
    case round =>
      obtain ⟨i, b, L, rfl, rfl, hi, hb, hL, hs, hch⟩ := hrel
      have hbfl2 := H3.out.1.lt
      by_cases hlt : i < n
      · have hF := H3.out.1.chg hch H2.out.2.2.2.2.1
        have c1 := hF.cell i (by omega)
        have c2 := hL.cell i (by omega)
        have c3' := hL.free i
        have hyl := hF.dig i (by omega)
        obtain ⟨y, hy⟩ : ∃ y, F i = y := ⟨_, rfl⟩
        rw [hy] at c1 hyl
        have k : ∀ w, (callFunc 40 #[.int .u64 0, .int .u64 (y : Nat), .int .u64 (b : Nat)]).run Tryd.prog w = .ok (.value (.tuple #[.int .u64 (((0 + 18446744073709551616 - y - b) % 18446744073709551616 : Nat) : Int), .int .u64 ((if 0 < y + b then 1 else 0 : Nat) : Int)])) w := fun w => sub64_raw 0 y b hb w
        obtain ⟨d, hd⟩ : ∃ d, (0 + 18446744073709551616 - y - b) % 18446744073709551616 = d := ⟨_, rfl⟩
        obtain ⟨b2, hb2⟩ : ∃ d, (if 0 < y + b then 1 else 0 : Nat) = d := ⟨_, rfl⟩
        rw [hd, hb2] at k
        have hdl : d < B64 := by rw [← hd]; exact Nat.mod_lt _ (by omega)
        have hst := lack_step (upf L i d) F i b b2 y hyl hb (by rw [dv_congr (g := L) i fun j hj => by unfold upf; rw [if_neg (by omega)]]; exact hs) hy (by unfold upf; rw [if_pos rfl]; exact hd.symm) hb2.symm
        have j1 : (i : Int) < (n : Int) := by omega
        have j2 : (0 : Int) ≤ (i : Int) := by omega
        have j3 : IntKind.i64.wrap ((i : Int) + 1) = ((i + 1 : Nat) : Int) := IntWalk.i64_in _ (by omega)
        have H4 := Lib.hid (And.intro hL (And.intro hch (And.intro hdl hst)))
        clear hF hL hs hch hyl hy hd hb2 hdl hst hb
        go_wp2_with fail
        exact ⟨⟨i + 1, b2, upf L i d, rfl, by go_num, by omega, H4.out.2.2.2.1, H4.out.1.set i d H4.out.2.2.1, H4.out.2.2.2.2, H4.out.2.1.set bl i _ (fun _ => rfl)⟩, by simp [intOf]; omega⟩
      · obtain rfl : i = n := by omega
        obtain ⟨nr, hnr⟩ : ∃ x, i + i = x := ⟨_, rfl⟩
        have hmk := make_u64 nr (by omega)
        have j1 : IntKind.i64.wrap (2 * (i : Int)) = (nr : Int) := by rw [show 2 * (i : Int) = (nr : Int) by omega]; exact IntWalk.i64_in _ (by omega)
        have hB2 := H3.out.2.2.2.1.chg hch (by have := H2.out; omega)
        have hF := H3.out.1.chg hch H2.out.2.2.2.2.1
        obtain ⟨Z, hZ⟩ : ∃ Z, wr.alloc (.cells (Array.replicate nr (.int .u64 0)) 72) = Z := ⟨_, rfl⟩
        have hr := Dk.made wr nr
        rw [hZ] at hr
        have hCZ : Chg (fun _ => False) wr Z := by rw [← hZ]; exact Chg.alloc _ _ _
        have hB3 := hB2.chg hCZ (fun h => h)
        have k0 := cell_of_row _ _ 0 _ _ _ hB3
        have k1 := cell_of_row _ _ 1 _ _ _ hB3
        have k2 := cell_of_row _ _ 2 _ _ _ hB3
        have k3 := cell_of_row _ _ 3 _ _ _ hB3
        have k4 := cell_of_row _ _ 4 _ _ _ hB3
        have f0 := frozen_of_row _ _ 0 _ _ hB3
        have f1 := frozen_of_row _ _ 1 _ _ hB3
        have f2 := frozen_of_row _ _ 2 _ _ hB3
        have f3 := frozen_of_row _ _ 3 _ _ hB3
        have f4 := frozen_of_row _ _ 4 _ _ hB3
        rw [← hZ] at k0 k1 k2 k3 k4 f0 f1 f2 f3 f4
        have hwr : wk.heap.size ≤ wr.heap.size := hch.size
        have hBZ : Below w.heap.size w Z := (H3.out.2.2.2.2.trans (hch.below (by have := H3.out.2.2.2.2.size; omega) (fun k hk e => by have := H2.out; omega))).trans (hCZ.below (by have := H3.out.2.2.2.2.size; omega) (fun _ _ h => h))
        have hbll2 := hL.lt
        have HZ := Lib.hid hZ
        have H5 := Lib.hid (And.intro (hF.chg hCZ (fun h => h)) (And.intro (hL.chg hCZ (fun h => h)) (And.intro hs (And.intro hr (And.intro hnr (And.intro hB3 hBZ))))))
        have hbfl3 := hF.lt
        clear hF hL hs hch hr hnr hB2 hB3 hBZ hZ hCZ
        go_wp2_with fail
        rw [HZ.out]
        clear k0 k1 k2 k3 k4 f0 f1 f2 f3 f4
        obtain ⟨hF, hL, hs, hr, hnr, hB3, hBZ⟩ := H5.out
        have k0 := cell_of_row _ _ 0 _ _ _ hB3
        have k1 := cell_of_row _ _ 1 _ _ _ hB3
        have k2 := cell_of_row _ _ 2 _ _ _ hB3
        have k3 := cell_of_row _ _ 3 _ _ _ hB3
        have k4 := cell_of_row _ _ 4 _ _ _ hB3
        obtain ⟨Y, hY⟩ : ∃ Y, ((((Z.setCell ⟨w.heap.size, 0, none⟩ (.slice mx ln mc)).setCell ⟨w.heap.size, 1, none⟩ (.slice (some ⟨bf, 0, none⟩) i i)).setCell ⟨w.heap.size, 2, none⟩ (.int .i64 up)).setCell ⟨w.heap.size, 3, none⟩ (.slice (some ⟨bl, 0, none⟩) i i)).setCell ⟨w.heap.size, 4, none⟩ (.slice (some ⟨wr.heap.size, 0, none⟩) nr nr) = Y := ⟨_, rfl⟩
        have hCY : Chg (fun k => k = w.heap.size) Z Y := by
          rw [← hY]
          exact (((((Chg.refl (fun k => k = w.heap.size) Z).set _ 0 _ (fun _ => rfl)).set _ 1 _ (fun _ => rfl)).set _ 2 _ (fun _ => rfl)).set _ 3 _ (fun _ => rfl)).set _ 4 _ (fun _ => rfl)
        have h2 := H2.out
        have hwk := hBZ.size
        have hV2 : 0 < V * 2 ^ up := Nat.mul_pos (Nat.pos_of_ne_zero HT.out.2.1) (Nat.pow_pos (by omega))
        have hsF : dv F i = V * 2 ^ up := by rw [H3.out.2.1, H2.out.2.2.2.1]
        have hb1 : b = 1 := by
          rcases Nat.eq_zero_or_pos b with e | e
          · rw [e, Nat.zero_mul, hsF] at hs; omega
          · omega
        rw [hb1, Nat.one_mul, hsF] at hs
        have htop := up_top (dg V) F m up (fun j hj => hF.dig j (by have := HT.out.2.2.2.2; omega)) (by rw [H1.out.2.2.2]; exact HUP.out.2.1) (by rw [HT.out.2.2.2.2, hsF, dv_dg, Nat.mod_eq_of_lt HT.out.2.2.1])
        have hwr2 : w.heap.size < wr.heap.size := by have := H3.out.2.2.2.1.lt; omega
        exact bodyPost_ret (v := mdv mx ln mc bf bl wr.heap.size i nr up) (by simp [results, Tryd.results22, go_sem, k0, k1, k2, k3, k4]) rfl
          ⟨bf, bl, wr.heap.size, i, nr, up, _, rfl, hnr, HUP.out.1, by
            rw [hY]
            exact ⟨F, L, hF.chg hCY (by omega), hL.chg hCY (by omega), hsF, hs, hm16, by have := HT.out.2.2.2.2; omega, by rw [show i - 1 = m by have := HT.out.2.2.2.2; omega]; exact htop⟩, by
            rw [hY]
            exact hr.chg hCY (by omega), by omega, by omega, by omega, by omega, by omega, by
            rw [hY]
            exact hBZ.trans (hCY.below (by omega) (fun k hk e => by omega))⟩
end Go.Proofs.YtjkniebedgiclaaDoor
