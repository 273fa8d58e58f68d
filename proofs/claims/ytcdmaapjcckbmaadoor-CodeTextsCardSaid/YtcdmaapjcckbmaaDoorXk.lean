/- code: the names of all ops; where a text stands among them (names, slices.Index, find, Named). -/
import Derived.Test.YtcdmaapjcckbmaaDoorXf
import Derived.Deep.MidRow
import Derived.Deep.WholeRow
namespace Go.Proofs.YtcdmaapjcckbmaaDoor
open Go.RowKit Go.Shelf

/-- Info of any byte. -/
theorem fm_cases (n : Nat) : fmK n = 0 ∨ (fmK n = 1 ∧ n = fmN n + 95 ∧ fmN n < 40) ∨ (fmK n = 2 ∧ n = fmN n + 127 ∧ fmN n < 40) ∨ (fmK n = 3 ∧ n = fmN n + 143 ∧ fmN n < 40) ∨ (fmK n = 4 ∧ n = fmN n + 160 ∧ fmN n < 40) := by
  unfold fmK fmN
  split
  · rename_i h; right; left; refine ⟨rfl, ?_, ?_⟩ <;> omega
  · split
    · rename_i h; right; right; left; refine ⟨rfl, ?_, ?_⟩ <;> omega
    · split
      · rename_i h; right; right; right; left; refine ⟨rfl, ?_, ?_⟩ <;> omega
      · split
        · rename_i h; right; right; right; right; refine ⟨rfl, ?_, ?_⟩ <;> omega
        · left; rfl
theorem str_app (s : ByteArray) (l : List UInt8) : s ++ ⟨l.toArray⟩ = (⟨(s.data.toList ++ l).toArray⟩ : ByteArray) := by
  apply Go.WideShapes.bytes_inj
  simp [ByteArray.data_append]
theorem isO_fam {n : Nat} (h : fmK n ≠ 0) : isO n = true := by
  unfold isO oi
  rw [if_neg h]
  unfold fmK at h
  unfold fmK
  repeat' split
  all_goals first | (exfalso; simp_all; done) | rfl | skip
theorem info_any (n : Nat) (hn : n < 256) (w : World) : Calls Tryd.prog 10 #[.int .u8 n] w fun e w' => e = .returned (.tuple #[.agg (oiC (oi n)), .bool (isO n)]) ∧ Below w.heap.size w w' := by
  rcases fm_cases n with h | ⟨h, h1, h2⟩ | ⟨h, h1, h2⟩ | ⟨h, h1, h2⟩ | ⟨h, h1, h2⟩
  · rw [show oi n = alO n by unfold oi; rw [if_pos h], show isO n = !(alO n).nm.isEmpty by unfold isO oi; rw [if_pos h]]
    exact info_alone n hn h w
  · rw [isO_fam (by omega), show oi n = { famO 1 (fmN n) with nm := sPush.data.toList ++ dec (fmN n) } by unfold oi; rw [if_neg (by omega), h]; rfl]
    refine (info_fam1 n (fmN n) hn h2 h rfl w).mono ?_
    rintro e w' ⟨rfl, hw⟩
    rw [str_app]
    exact ⟨rfl, hw⟩
  · rw [isO_fam (by omega), show oi n = { famO 2 (fmN n) with nm := sDup.data.toList ++ dec (fmN n) } by unfold oi; rw [if_neg (by omega), h]; rfl]
    refine (info_fam2 n (fmN n) hn h2 h rfl w).mono ?_
    rintro e w' ⟨rfl, hw⟩
    rw [str_app]
    exact ⟨rfl, hw⟩
  · rw [isO_fam (by omega), show oi n = { famO 3 (fmN n) with nm := sSwap.data.toList ++ dec (fmN n) } by unfold oi; rw [if_neg (by omega), h]; rfl]
    refine (info_fam3 n (fmN n) hn h2 h rfl w).mono ?_
    rintro e w' ⟨rfl, hw⟩
    rw [str_app]
    exact ⟨rfl, hw⟩
  · rw [isO_fam (by omega), show oi n = { famO 4 (fmN n) with nm := sLog.data.toList ++ dec (fmN n) } by unfold oi; rw [if_neg (by omega), h]; rfl]
    refine (info_fam4 n (fmN n) hn h2 h rfl w).mono ?_
    rintro e w' ⟨rfl, hw⟩
    rw [str_app]
    exact ⟨rfl, hw⟩

def nmO (n : Nat) : ByteArray := ⟨(oi n).nm.toArray⟩
def nmV (k : Nat) : Array Value := ((List.range 256).map fun j => Value.string (if j < k then nmO j else ⟨#[]⟩)).toArray
theorem nmV_size (k : Nat) : (nmV k).size = 256 := by simp [nmV]
theorem nmV_get (k j : Nat) (h : j < 256) : (nmV k)[j]? = some (.string (if j < k then nmO j else ⟨#[]⟩)) := by
  unfold nmV
  rw [List.getElem?_toArray, List.getElem?_map, List.getElem?_range h]
  rfl
theorem nmV_set (k : Nat) (h : k < 256) : (nmV k).setIfInBounds k (.string (nmO k)) = nmV (k + 1) := by
  apply Array.ext_getElem?
  intro j
  by_cases hj : j < 256
  · rw [Array.getElem?_setIfInBounds, nmV_get _ _ hj, nmV_get _ _ hj, nmV_size]
    by_cases e : k = j
    · subst e
      simp [h]
    · rw [if_neg e]
      by_cases h2 : j < k
      · simp [h2, show j < k + 1 by omega]
      · simp [h2, show ¬ j < k + 1 by omega]
  · rw [Array.getElem?_eq_none (by simp [nmV_size]; omega), Array.getElem?_eq_none (by simp [nmV_size]; omega)]
theorem nmV_one (k : Nat) : (nmV k).all (·.oneCell') = true := by
  unfold nmV
  refine all_oneCell_toArray fun v hv => ?_
  obtain ⟨j, _, rfl⟩ := List.mem_map.1 hv
  rfl
theorem zero_names : Tryd.zeroCells63 = nmV 0 := by kernel_rfl
theorem undNm : Tryd.prog.underlying 63 = some (.array 256 9) := by kernel_rfl
theorem infoNm : (Tryd.prog.info? 63).map (·.size) = some 256 := by kernel_rfl
theorem Blk.rangeN {X : World} {b : Nat} {t : TypeId} {cs : Array Value} (h : Blk X b t cs) : X.rangeAt b 0 cs.toList := fun j v hv => by
  rw [Nat.zero_add, cell_of_row _ _ j _ _ _ h, ← Array.getElem?_toList]
  exact hv
theorem wpList_load_midN {P : Program} {ops : Array Oper} {rest : List Oper} {op : Oper} {a : Act} {w : World} {Q : Exit → Act → World → Prop} (hgd : op.guard = none) (ty : TypeId) (x : Operand) (ho : op.op = .load ty x)
    (b o : Nat) (hx : a.eval x = .pointer (some ⟨b, o, none⟩)) (cs : Array Value) (d : TypeDesc) (hc : w.rangeAt b o cs.toList)
    (hu : P.underlying ty = some d) (hd : d.isRow = true) (hi : (P.info? ty).map (·.size) = some cs.size)
    (h : wpList P ops Q rest (a.put op.dst (.agg cs)) w) : wpList P ops Q (op :: rest) a w :=
  wpList_load_mid hgd ty x ho b o hx cs.toList d hc hu hd (by simpa using hi) (by rwa [Array.toArray_toList])
theorem names_next {X w1 : World} {w : World} {g k : Nat} {cs : Array Value} (hk : k < 256) (h0 : Blk X w.heap.size 63 (nmV 0)) (h1 : Blk X (w.heap.size + 1) 63 (nmV k)) (hw : Below w.heap.size w X) (hi : Below X.heap.size X w1) :
    Blk ((w1.alloc (.cells cs g)).setCell ⟨w.heap.size + 1, k, none⟩ (.string (nmO k))) w.heap.size 63 (nmV 0) ∧ Blk ((w1.alloc (.cells cs g)).setCell ⟨w.heap.size + 1, k, none⟩ (.string (nmO k))) (w.heap.size + 1) 63 (nmV (k + 1)) ∧ Below w.heap.size w ((w1.alloc (.cells cs g)).setCell ⟨w.heap.size + 1, k, none⟩ (.string (nmO k))) := by
  have k0 := (Blk.keep h0 hi).alloc (.cells cs g)
  have k1 := (Blk.keep h1 hi).alloc (.cells cs g)
  refine ⟨?_, ?_, (balloc (bstep hw hi) _).setCell (p := ⟨w.heap.size + 1, k, none⟩) (by show w.heap.size ≤ w.heap.size + 1; omega) _⟩
  · exact (Below.heap_setCell _ ⟨w.heap.size + 1, k, none⟩ _ w.heap.size (by show w.heap.size ≠ w.heap.size + 1; omega)).trans k0
  · rw [← nmV_set k hk]
    exact heap_setCell_same _ _ k _ _ _ k1
set_option maxRecDepth 100000 in
set_option maxHeartbeats 2000000 in
theorem names_any (w : World) : Calls Tryd.prog 36 #[] w fun e w' => e = .returned (.agg (nmV 256)) ∧ Below w.heap.size w w' := by
  go_enter Tryd.func36, Tryd.ntmps36
  go_upto_region 2 with fail
  rw [zero_names]
  obtain ⟨X, hX⟩ : ∃ X, (w.alloc (.cells (nmV 0) 63)).alloc (.cells (nmV 0) 63) = X := ⟨_, rfl⟩
  have b0 : Blk X w.heap.size 63 (nmV 0) := by rw [← hX]; exact (Blk.new w _ _).alloc _
  have b1 : Blk X (w.heap.size + 1) 63 (nmV 0) := by rw [← hX]; exact Blk.newS w _ _ _
  have hW : Below w.heap.size w X := by rw [← hX]; exact balloc (balloc (Below.refl _ _) _) _
  rw [hX]
  have HX := Lib.hid (And.intro b0 (And.intro b1 hW))
  clear hX b0 b1 hW
  go_wp2_with fail
  go_loopw [5] (fun t5 wr => ∃ k : Nat, k ≤ 256 ∧ t5 = .int .i64 (k : Nat) ∧ Blk wr w.heap.size 63 (nmV 0) ∧ Blk wr (w.heap.size + 1) 63 (nmV k) ∧ Below w.heap.size w wr) (fun t5 _ => (256 - intOf t5).toNat)
  case atStart => exact ⟨0, by omega, rfl, HX.out⟩
  case round =>
    obtain ⟨k, hk, rfl, h0, h1, hW⟩ := hrel
    by_cases hlt : k < 256
    · have g0 : IntKind.u8.wrap (k : Int) = (k : Int) := IntWalk.u8_in _ (by omega)
      have hkI : (k : Int) < 256 := by omega
      have HI := Lib.hid (info_any k hlt)
      have HN := Lib.hid (And.intro hlt (And.intro h0 (And.intro h1 hW)))
      have hnm : (⟨(oi k).nm.toArray⟩ : ByteArray) = nmO k := rfl
      generalize oi k = O at *
      simp only [oiC] at HI
      rw [hnm] at HI
      clear hnm
      generalize isO k = z at *
      generalize hS : nmO k = S at *
      clear h0 h1 hW HX
      go_upto_region 6 with (first
        | (go_at_call 10; refine (HI.out _).mono ?_; rintro e w1 ⟨rfl, hi⟩; have HW := Lib.hid hi; clear hi)
        | fail)
      obtain ⟨hlt', h0, h1, hW⟩ := HN.out
      have hE := Lib.hid (names_next (g := 25) (cs := #[.string S, .int .i64 O.i, .int .i64 O.o, .int .u64 O.g, .bool O.q, .int .i64 O.z]) hlt' h0 h1 hW HW.out)
      rw [hS] at hE
      obtain ⟨Y, hY⟩ : ∃ Y, w1.alloc (.cells #[.string S, .int .i64 O.i, .int .i64 O.o, .int .u64 O.g, .bool O.q, .int .i64 O.z] 25) = Y := ⟨_, rfl⟩
      have d0 : Y.cell? ⟨w1.heap.size, 0, none⟩ = some (.string S) := by rw [← hY]; exact cell_of_row _ _ 0 _ _ _ (Blk.new w1 _ _)
      have hb1 : Blk Y (w.heap.size + 1) 63 (nmV k) := by rw [← hY]; exact (Blk.keep h1 HW.out).alloc _
      have c0 : Y.cell? ⟨w.heap.size + 1, k, none⟩ = some (.string ⟨#[]⟩) := (cell_of_row _ _ k _ _ _ hb1).trans (by rw [nmV_get k k hlt']; simp)
      have f0 := frozen_of_row Y _ k _ _ hb1
      rw [hY] at hE ⊢
      have hk0 : (0 : Int) ≤ (k : Int) := by omega
      clear hY h0 h1 hW HW HN HI hb1 hS hlt hk hlt'
      go_wp2_with fail
      go_roundw
      case rel => exact ⟨k + 1, by omega, by go_num, hE.out⟩
      case measure => simp [intOf]; omega
    · obtain rfl : k = 256 := by omega
      have HN := Lib.hid (And.intro h0 (And.intro h1 hW))
      clear h0 h1 hW HX
      go_upto_region 8 with fail
      obtain ⟨h0, h1, hW⟩ := HN.out
      refine wp_region_lit ?_
      refine wpList_load_midN rfl 63 (.tmp 1) rfl (w.heap.size + 1) 0 rfl (nmV 256) _ h1.rangeN undNm rfl (by rw [infoNm, nmV_size]) ?_
      refine wpList_store_row rfl 63 (.tmp 0) (.tmp 19) rfl w.heap.size (nmV 256) rfl rfl 63 (nmV 0) h0 (by rw [infoNm, nmV_size]) (by rw [nmV_size, nmV_size]) (nmV_one _) (wpList_nil ?_)
      have hgr : Blk (wr.setRow w.heap.size (nmV 256)) w.heap.size 63 (nmV 256) := setRow_heap _ _ _ _ _ _ h0
      have HE := Lib.hid (And.intro hgr (hW.trans (⟨rfl, rfl, rfl, by simp, fun k hk => setRow_other _ _ _ _ (by omega)⟩ : Below w.heap.size wr (wr.setRow w.heap.size (nmV 256)))))
      clear h0 h1 hgr hW HN
      generalize wr.setRow w.heap.size (nmV 256) = Z at HE ⊢
      go_wp2_with fail
      (try simp only [Exit.inBlock, Exit.then])
      refine bodyPost_ret (results_cell_row rfl _ _ w.heap.size 63 (nmV 256) (0, 0) _ rfl HE.out.1 undNm rfl (by rw [infoNm, nmV_size])) rfl ?_
      exact ⟨rfl, HE.out.2⟩
end Go.Proofs.YtcdmaapjcckbmaaDoor
