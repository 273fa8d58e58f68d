/- big: what is left of digits. -/
import Derived.Test.YtjkniebedgiclaaDoorFh
namespace Go.Proofs.YtjkniebedgiclaaDoor
open Go.RowKit Go.Shelf

theorem cut_win (b o m c l h : Nat) (hl : l < h) (hh : h ≤ c) (w : World) : (Instr.slice 54 (.slice (some ⟨b, o, none⟩) m c) (some (.int .i64 (l : Nat))) (some (.int .i64 (h : Nat))) (some (.int .i64 (h : Nat)))).run Tryd.prog w = .ok (.slice (some ⟨b, o + l, none⟩) (h - l) (h - l)) w := by
  have e := run_slice_lhm (P := Tryd.prog) (w := w) (t := 54) (a := some ⟨b, o, none⟩) (len := m) (cap := c) (ht := by kernel_rfl) .i64 .i64 .i64 (l : Int) (h : Int) (h : Int) (by omega) (by omega) (by omega) (by omega)
  rw [e, show Tryd.prog.elem 54 = 72 by kernel_rfl, show (sizeOf 72).run Tryd.prog w = .ok 1 w by kernel_rfl]
  simp only [Result.andThen_ok, sliced, Int.toNat_natCast]
  rw [if_neg (by omega)]
  show Result.ok (Value.slice (some (Addr.add ⟨b, o, none⟩ (l * 1))) _ _) w = _
  rw [Go.WideShapes.add_plain, Nat.mul_one]
/-- One step of what is left: the number's worth by the modulus stays. -/
theorem rest_step (D E : Nat → Nat) (g n M : Nat) (hM : 0 < M) (hP : M ≤ B64 ^ n) (ho : ∀ j, j < g ∨ g + n + 1 ≤ j → E j = D j)
    (h : dv (fun i => E (g + i)) (n + 1) = dv (fun i => D (g + i)) (n + 1) % M) : dv (fun i => E (g + i)) n < M ∧ dv E (g + n) % M = dv D (g + 1 + n) % M := by
  have h1 : dv (fun i => E (g + i)) (n + 1) < M := by rw [h]; exact Nat.mod_lt _ hM
  have h2 : dv (fun i => E (g + i)) (n + 1) = dv (fun i => E (g + i)) n + E (g + n) * B64 ^ n := rfl
  have h3 : E (g + n) = 0 := by
    rcases Nat.eq_zero_or_pos (E (g + n)) with e | e
    · exact e
    · have : 1 * B64 ^ n ≤ E (g + n) * B64 ^ n := Nat.mul_le_mul_right _ e
      omega
  rw [h3, Nat.zero_mul] at h2
  replace h2 : dv (fun i => E (g + i)) (n + 1) = dv (fun i => E (g + i)) n := h2
  refine ⟨by omega, ?_⟩
  rw [dv_add, ← h2, h, show g + 1 + n = g + (n + 1) by omega, dv_add D g (n + 1), dv_congr g fun i hi => ho i (.inl hi)]
  rw [Nat.add_mod, Nat.mul_mod, Nat.mod_mod, ← Nat.mul_mod, ← Nat.add_mod]

set_option maxRecDepth 100000 in
set_option maxHeartbeats 4000000 in
theorem rest_any (mx : Option Addr) (ml mc bf bl br n nr up M b h c N : Nat) (D : Nat → Nat) (w : World) (hc : n + h ≤ c) (hh : h ≤ 1000) (hN : n + h ≤ N) (hm : Md w bf bl n M) (hd : Dk w b N D) (ef : b ≠ bf) (el : b ≠ bl) (ht : dv (fun i => D (h + i)) n < M) :
    Calls Tryd.prog 56 #[mdv mx ml mc bf bl br n nr up, .slice (some ⟨b, 0, none⟩) (n + h) c] w fun e w' =>
      ∃ D', e = .returned (.slice (some ⟨b, 0, none⟩) n n) ∧ Dk w' b N D' ∧ dv D' n = dv D (n + h) % M ∧ Chg (fun k => k = b) w w' := by
  have hn0 : 0 < n ∧ n ≤ 16 := by obtain ⟨F, L, _, _, _, _, h1, h2, _⟩ := hm; exact ⟨h2, h1⟩
  obtain ⟨hM0, hMP⟩ := hm.pos
  obtain ⟨K, hK⟩ : ∃ K, n + h = K := ⟨_, rfl⟩
  have hct := cut_to b 0 K n c (by omega)
  have i1 : IntKind.i64.wrap ((K : Int) - (n : Int)) = (h : Int) := by rw [show (K : Int) - (n : Int) = (h : Int) by omega]; exact IntWalk.i64_in _ (by omega)
  have i2 : IntKind.i64.wrap ((h : Int) - 1) = (h : Int) - 1 := IntWalk.i64_in _ (by omega)
  have hbb := hd.lt
  have hmb : bf < w.heap.size ∧ bl < w.heap.size := by obtain ⟨F, L, h1, h2, _⟩ := hm; exact ⟨h1.lt, h2.lt⟩
  obtain ⟨X, hX⟩ : ∃ X, w.alloc (.cells #[.slice mx ml mc, .slice (some ⟨bf, 0, none⟩) n n, .int .i64 up, .slice (some ⟨bl, 0, none⟩) n n, .slice (some ⟨br, 0, none⟩) nr nr] 56) = X := ⟨_, rfl⟩
  have hB : Blk X w.heap.size 56 (mdc mx ml mc bf bl br n nr up) := by rw [← hX]; exact Blk.new w _ _
  have hC : Chg (fun _ => False) w X := by rw [← hX]; exact (Chg.refl _ w).then_alloc _
  have hd := hd.chg hC (fun h => h)
  have hm := hm.chg hC (fun h => h) (fun h => h)
  have HX := Lib.hid hX
  have HK := Lib.hid hK
  have HS := Lib.hid (And.intro hd (And.intro hm (And.intro hB (And.intro hC ht))))
  have HE := Lib.hid (And.intro ef (And.intro el (And.intro hM0 (And.intro hMP hN))))
  rw [hK]
  clear hX hK hd hm hB hC ht ef el hM0 hMP
  go_enter Tryd.func56, Tryd.ntmps56
  go_wp2_with fail
  rw [HX.out]
  clear i1 i2
  go_loopw [6] (fun t wr => ∃ (g : Nat) (E : Nat → Nat), t = .int .i64 ((g : Int) - 1) ∧ g ≤ h ∧ Dk wr b N E ∧ dv (fun i => E (g + i)) n < M ∧ dv E (g + n) % M = dv D K % M ∧ Chg (fun k => k = b) X wr) (fun t _ => (intOf t + 1).toNat)
  case atStart => exact ⟨h, D, rfl, Nat.le_refl _, HS.out.1, HS.out.2.2.2.2, congrArg (fun z => dv D z % M) (show h + n = K by have := HK.out; omega), Chg.refl _ _⟩
  case round =>
    obtain ⟨g, E, rfl, hg, hd, ht, hv, hch⟩ := hrel
    have hb := HS.out.2.2.1.chg hch (fun e => by omega)
    have hm := HS.out.2.1.chg hch (Ne.symm HE.out.1) (Ne.symm HE.out.2.1)
    by_cases h0 : g = 0
    · subst h0
      have HZ := Lib.hid (And.intro hd (And.intro ht (And.intro hv hch)))
      rw [show ((0 : Nat) : Int) - 1 = -1 from rfl]
      clear hd ht hv hch hb hm
      go_wp2_with fail
      go_ret
      obtain ⟨hd, ht, hv, hch⟩ := HZ.out
      have e0 : dv (fun i => E (0 + i)) n = dv E n := dv_congr n fun i _ => by rw [Nat.zero_add]
      rw [e0] at ht
      rw [Nat.zero_add, Nat.mod_eq_of_lt ht] at hv
      exact ⟨E, rfl, hd, hv, (HS.out.2.2.2.1.mono (fun _ _ h => h.elim)).trans hch (fun _ _ h => h)⟩
    · obtain ⟨p, rfl⟩ : ∃ p, g = p + 1 := ⟨g - 1, by omega⟩
      obtain ⟨q, hq⟩ : ∃ q, p + n + 1 = q := ⟨_, rfl⟩
      have hw := cut_win b 0 K c p q (by omega) (by have := HK.out; omega)
      rw [Nat.zero_add, show q - p = n + 1 by omega] at hw
      obtain ⟨n1, hn1⟩ : ∃ x, n + 1 = x := ⟨_, rfl⟩
      rw [hn1] at hw
      have j0 : ((p + 1 : Nat) : Int) - 1 = (p : Int) := by omega
      have j1 : IntKind.i64.wrap ((p : Int) + (n : Int)) = ((p + n : Nat) : Int) := by rw [show (p : Int) + (n : Int) = ((p + n : Nat) : Int) by omega]; exact IntWalk.i64_in _ (by omega)
      have j2 : IntKind.i64.wrap (((p + n : Nat) : Int) + 1) = (q : Int) := by rw [show ((p + n : Nat) : Int) + 1 = (q : Int) by omega]; exact IntWalk.i64_in _ (by omega)
      obtain ⟨s, hs⟩ : ∃ s, p + n = s := ⟨_, rfl⟩
      rw [hs] at j1 j2
      have j3 : (0 : Int) ≤ (p : Int) := by omega
      have j4 : IntKind.i64.wrap ((p : Int) - 1) = (p : Int) - 1 := IntWalk.i64_in _ (by omega)
      have k0 := cell_of_row _ _ 0 _ _ _ hb
      have k1 := cell_of_row _ _ 1 _ _ _ hb
      have k2 := cell_of_row _ _ 2 _ _ _ hb
      have k3 := cell_of_row _ _ 3 _ _ _ hb
      have k4 := cell_of_row _ _ 4 _ _ _ hb
      have HZ := Lib.hid (And.intro hd (And.intro ht (And.intro hv (And.intro hch hm))))
      have HQ := Lib.hid (And.intro hq (And.intro hn1 hs))
      rw [j0]
      clear hd ht hv hch hb hm hq hn1 hs j0
      go_wp2_with fail
      refine region_tail 12 (by kernel_rfl) (by kernel_rfl) (fun wd hwd => ?_)
      simp only [List.take_succ_cons, List.take_zero, List.drop_succ_cons, List.drop_zero]
      have k0' : wd.cell? ⟨w.heap.size, 0, none⟩ = (mdc mx ml mc bf bl br n nr up)[0]? := by rw [hwd]; exact k0
      have k1' : wd.cell? ⟨w.heap.size, 1, none⟩ = (mdc mx ml mc bf bl br n nr up)[1]? := by rw [hwd]; exact k1
      have k2' : wd.cell? ⟨w.heap.size, 2, none⟩ = (mdc mx ml mc bf bl br n nr up)[2]? := by rw [hwd]; exact k2
      have k3' : wd.cell? ⟨w.heap.size, 3, none⟩ = (mdc mx ml mc bf bl br n nr up)[3]? := by rw [hwd]; exact k3
      have k4' : wd.cell? ⟨w.heap.size, 4, none⟩ = (mdc mx ml mc bf bl br n nr up)[4]? := by rw [hwd]; exact k4
      have hSd := Lib.hid (show Calls _ _ _ wd _ from by
        rw [hwd]
        exact step_any mx ml mc bf bl br n nr up M b p (n + 1) N E wr.drew (Nat.le_refl _) (by have := HE.out.2.2.2.2; have := HQ.out; have := HK.out; omega) HZ.out.2.2.2.2 HZ.out.1 HE.out.1 HE.out.2.1 (by rw [dv_congr n fun i _ => congrArg E (show p + (i + 1) = p + 1 + i by omega)]; exact HZ.out.2.1))
      rw [HQ.out.2.1] at hSd
      clear hwd k0 k1 k2 k3 k4
      repeat still_step
      refine wpStill_nil ?_
      go_wp2_with (first | (go_at_call 57; refine hSd.out.mono ?_; rintro e w2 ⟨E2, rfl, hd2, hout2, hv2, hch2⟩; have HA2 := Lib.hid (And.intro hd2 (And.intro hout2 (And.intro hv2 hch2))); clear hd2 hout2 hv2 hch2) | fail)
      obtain ⟨hd2, hout2, hv2, hch2⟩ := HA2.out
      obtain ⟨r1, r2⟩ := rest_step E E2 p n M HE.out.2.2.1 HE.out.2.2.2.1 (fun j hj => hout2 j (by omega)) (by rw [HQ.out.2.1]; exact hv2)
      exact ⟨⟨p, E2, rfl, by omega, hd2, r1, r2.trans HZ.out.2.2.1, HZ.out.2.2.2.1.drew.trans hch2 (fun _ _ h => h)⟩, by simp [intOf]⟩
end Go.Proofs.YtjkniebedgiclaaDoor
