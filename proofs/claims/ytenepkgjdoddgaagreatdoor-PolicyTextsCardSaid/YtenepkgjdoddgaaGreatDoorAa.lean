/- policy's laws: the reader's label, address and entry, where the words are right. -/
import Derived.Test.YtenepkgjdoddgaaGreatDoorSz
import Derived.Test.YtenepkgjdoddgaaGreatDoorGi
namespace Go.Proofs.YtenepkgjdoddgaaGreatDoor
open Go.RowKit Go.Shelf

theorem grown_stp {X Y Z : World} {R : Nat} (h : X.grownBy Y (some R)) (k : Below X.heap.size Y Z) : X.grownBy Z (some R) :=
  ⟨k.os.trans h.os, k.tape.trans h.tape, k.output.trans h.output, Nat.le_trans h.size k.size, fun i hi hr => (k.block i hi).trans (h.block i hi hr)⟩
set_option maxRecDepth 100000 in
set_option maxHeartbeats 2000000 in
theorem label_ok (R b k : Nat) (cs : List ByteArray) (u : ByteArray) (v : Value) (num df : Int) (vc vr : Value) (w : World) (hR : Rd w R v num df vc vr) (hb : Wd w b cs k v) (hk : cs[k]? = some u) (hu : u.size ≤ 400) (hg : ∀ w', w.grownBy w' (some R) → TZ w') (he : labE u.data.toList = 0) :
    Calls Tryz.prog 141 #[.pointer (some ⟨R, 0, none⟩)] w fun e w' => e = .returned (.int .u64 (labV u.data.toList : Nat)) ∧ ∃ v', Rd w' R v' num df vc vr ∧ Wd w' b cs (k + 1) v' ∧ w.grownBy w' (some R) := by
  have HN := Lib.hid (next_ok R b k cs u v num df vc vr w hR hb hk)
  have HG := Lib.hid hg
  have HP := Lib.hid (fun X (h : TZ X) => parse_any u hu X h)
  have HE := Lib.hid he
  clear hR hb hk hg hu he
  go_enter Tryz.func141, Tryz.ntmps141
  go_wp2_with (first
    | (go_at_call 94; refine (HN.out).mono ?_; rintro e w1 ⟨rfl, v', hR, hb, hg⟩; have H1 := Lib.hid (And.intro hR (And.intro hb hg)); clear hR hb hg)
    | (go_at_call 157; refine (HP.out _ (HG.out _ H1.out.2.2)).mono ?_; rintro e w2 ⟨rfl, h2⟩; rw [HE.out]; have H2 := Lib.hid h2; clear h2)
    | (go_at_call 92; refine (need_b _ rfl _).mono ?_; rintro e w' ⟨rfl, rfl⟩)
    | fail)
  go_ret
  obtain ⟨hR, hb, hg⟩ := H1.out
  have h2 := H2.out
  exact ⟨rfl, v', Rd.kept hR (grown_new h2) (by simp), Wd.kept hb (grown_new h2) (by simp), grown_stp hg (h2.mono hg.size)⟩
set_option maxRecDepth 100000 in
set_option maxHeartbeats 2000000 in
theorem raddr_ok (R b k : Nat) (cs : List ByteArray) (T : List UInt8) (v : Value) (num df : Int) (vc vr : Value) (w : World) (hR : Rd w R v num df vc vr) (hb : Wd w b cs k v) (hk : cs[k]? = some ⟨(48 :: 120 :: T).toArray⟩) (hl : T.length = 40) (hok : ∀ y ∈ T, dv y < 16) :
    Calls Tryz.prog 142 #[.pointer (some ⟨R, 0, none⟩)] w fun e w' => e = .returned (.agg (adC (lowA (valL T)))) ∧ ∃ v', Rd w' R v' num df vc vr ∧ Wd w' b cs (k + 1) v' ∧ w.grownBy w' (some R) := by
  have hlt := Blk.lt hR
  have hltb := hb.1.lt
  have hal : Below w.heap.size w (w.alloc (.cells zaC 29)) := balloc (Below.refl _ _) _
  have hZ := Blk.new w 29 zaC
  have hR1 : Rd (w.alloc (.cells zaC 29)) R v num df vc vr := Rd.kept hR (grown_new hal) (by simp)
  have hb1 : Wd (w.alloc (.cells zaC 29)) b cs k v := Wd.kept hb (grown_new hal) (by simp)
  have hG0 := grown_new hal
  obtain ⟨X0, hX0⟩ : ∃ X0, w.alloc (.cells zaC 29) = X0 := ⟨_, rfl⟩
  rw [hX0] at hZ hR1 hb1 hG0
  have HN := Lib.hid (next_ok R b k cs _ v num df vc vr X0 hR1 hb1 hk)
  have HP := Lib.hid (fun X => address_ok T hl hok X)
  have HA := Lib.hid (lowA_ad (valL T))
  obtain ⟨n, hn⟩ : ∃ n, valL T = n := ⟨_, rfl⟩
  rw [hn] at HA ⊢
  simp only [hn] at HP
  obtain ⟨S, hS⟩ : ∃ S, (⟨(48 :: 120 :: T).toArray⟩ : ByteArray) = S := ⟨_, rfl⟩
  simp only [hS] at HP HN
  have HX0 := Lib.hid hX0
  clear hR hb hk hl hok hal hR1 hb1 hn hS hX0
  go_enter Tryz.func142, Tryz.ntmps142
  go_upto_region 1 with fail
  rw [← zaC_lit, HX0.out]
  refine wp_region_lit ?_
  refine wpList_plain rfl fun K hK => ?_
  go_simp
  refine hK _ _ ?_
  clear hK K
  refine wpList_plain rfl fun K hK => ?_
  go_simp
  refine hK _ _ ?_
  clear hK K
  refine wpList_plain rfl fun K hK => ?_
  go_simp
  refine hK _ _ ?_
  clear hK K
  refine wpList_plain rfl fun K hK => ?_
  go_simp
  refine (HN.out).mono ?_
  rintro e X1 ⟨rfl, v', hR1, hb1, hg1⟩
  have hZ1 := hZ.kept hg1 (by intro e; have := Option.some.inj e; omega)
  refine hK _ _ ?_
  clear hK K hZ
  refine wpList_plain rfl fun K hK => ?_
  go_simp
  refine (HP.out _).mono ?_
  rintro e X2 ⟨rfl, h2⟩
  have hZ2 := hZ1.keep h2
  have hR2 : Rd X2 R v' num df vc vr := Rd.kept hR1 (grown_new h2) (by simp)
  have hb2 : Wd X2 b cs (k + 1) v' := Wd.kept hb1 (grown_new h2) (by simp)
  have hg2 := grown_stp hg1 (h2.mono hg1.size)
  refine hK _ _ ?_
  clear hK K hZ1 hR1 hb1 hg1 h2 HN HP
  refine wpList_plain rfl fun K hK => ?_
  go_simp
  refine hK _ _ ?_
  clear hK K
  refine wpList_plain rfl fun K hK => ?_
  go_simp
  refine hK _ _ ?_
  clear hK K
  refine wpList_plain rfl fun K hK => ?_
  go_simp
  refine hK _ _ ?_
  clear hK K
  refine wpList_plain rfl fun K hK => ?_
  go_simp
  refine hK _ _ ?_
  clear hK K
  rw [← zaC_lit]
  refine wpList_store_row rfl 29 (.tmp 3) (.tmp 11) rfl X2.heap.size (adC (lowA n)) rfl rfl 29 zaC (Blk.new X2 _ _) (by rw [info_addr, adC_size HA.out]) (by rw [zaC_size, adC_size HA.out]) (adC_one _) ?_
  rw [World.setRow_alloc_new]
  have hA3 := Blk.new X2 29 (adC (lowA n))
  have hal3 : Below X2.heap.size X2 (X2.alloc (.cells (adC (lowA n)) 29)) := balloc (Below.refl _ _) _
  obtain ⟨X3, hX3⟩ : ∃ X3, X2.alloc (.cells (adC (lowA n)) 29) = X3 := ⟨_, rfl⟩
  rw [hX3] at hA3 hal3 ⊢
  have hZ3 := hZ2.keep hal3
  have hR3 : Rd X3 R v' num df vc vr := Rd.kept hR2 (grown_new hal3) (by simp)
  have hb3 : Wd X3 b cs (k + 1) v' := Wd.kept hb2 (grown_new hal3) (by simp)
  have hg3 := grown_stp hg2 (hal3.mono hg2.size)
  have hls := hA3.lt
  clear hX3 hZ2 hR2 hb2 hg2 hal3
  generalize X2.heap.size = g3 at hA3 hls ⊢
  refine wpList_plain rfl fun K hK => ?_
  go_simp
  refine hK _ _ ?_
  clear hK K
  refine wpList_nil ?_
  have HH := Lib.hid (And.intro hR3 (And.intro hb3 (And.intro hg3 (And.intro hZ3 hA3))))
  clear hR3 hb3 hg3 hZ3 hA3
  go_upto_region 3 with (first | (go_at_call 92; refine (need_b _ rfl _).mono ?_; rintro e w' ⟨rfl, rfl⟩) | fail)
  refine wp_region_lit ?_
  obtain ⟨hR3, hb3, hg3, hZ3, hA3⟩ := HH.out
  refine wpList_load_midA rfl 29 (.tmp 3) rfl g3 0 rfl (adC (lowA n)) _ hA3.range und_addr rfl (by rw [info_addr, adC_size HA.out]) ?_
  refine wpList_store_row rfl 29 (.tmp 2) (.tmp 16) rfl w.heap.size (adC (lowA n)) rfl rfl 29 zaC hZ3 (by rw [info_addr, adC_size HA.out]) (by rw [zaC_size, adC_size HA.out]) (adC_one _) (wpList_nil ?_)
  have hgr : Blk (X3.setRow w.heap.size (adC (lowA n))) w.heap.size 29 (adC (lowA n)) := setRow_heap _ _ _ _ _ _ hZ3
  have hgs : X3.grownBy (X3.setRow w.heap.size (adC (lowA n))) (some w.heap.size) := ⟨rfl, rfl, rfl, by simp, fun i _ hr => setRow_other _ _ _ _ (fun e => hr (by rw [e]))⟩
  have hg0 : w.heap.size ≤ X3.heap.size := Nat.le_trans hG0.size hg3.size
  have HE := Lib.hid (And.intro hgr (And.intro (Rd.kept hR3 hgs (by intro e; have := Option.some.inj e; omega)) (And.intro (Wd.kept hb3 hgs (by intro e; have := Option.some.inj e; omega))
    (⟨hgs.os.trans (hg3.os.trans hG0.os), hgs.tape.trans (hg3.tape.trans hG0.tape), hgs.output.trans (hg3.output.trans hG0.output), Nat.le_trans hg0 hgs.size, fun i hi hr => (hgs.block i (by omega) (by intro e; have := Option.some.inj e; omega)).trans ((hg3.block i (Nat.lt_of_lt_of_le hi hG0.size) hr).trans (hG0.block i hi (by simp)))⟩ : w.grownBy (X3.setRow w.heap.size (adC (lowA n))) (some R)))))
  clear hgr hgs hR3 hb3 hZ3 hA3
  generalize X3.setRow w.heap.size (adC (lowA n)) = Z at HE ⊢
  go_wp2_with fail
  exact ⟨rfl, _, results_cell_row rfl _ _ w.heap.size 29 (adC (lowA n)) (0, 0) _ rfl HE.out.1 und_addr rfl (by rw [info_addr, adC_size HA.out]), rfl, v', HE.out.2⟩
end Go.Proofs.YtenepkgjdoddgaaGreatDoor
