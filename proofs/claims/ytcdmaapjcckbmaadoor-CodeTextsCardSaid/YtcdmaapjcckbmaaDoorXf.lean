/- code: what ops have (Info). -/
import Derived.Test.YtcdmaapjcckbmaaDoorXe
import Derived.Deep.RegionHeld3
import Derived.RegionTactic
import Derived.Laws.ResultCell
namespace Go.Proofs.YtcdmaapjcckbmaaDoor
open Go.RowKit Go.Shelf

theorem results_row_tmp {P : Program} {fn : Func} {p u : Tmp} {ty : TypeId} (h : fn.results = #[.cell p ty, .tmp u]) (tmps : Array Value) (w : World) (g : Nat) (t : TypeId) (cs : Array Value) (fr : Nat × Nat) (d : TypeDesc)
    (hp : tmps.getD p undef = .pointer (some ⟨g, 0, none⟩)) (hg : w.heap[g]? = some (.cells cs t fr))
    (hu : P.underlying ty = some d) (hd : (match d with | .struct _ | .array _ _ => true | _ => false) = true) (hi : (P.info? ty).map (·.size) = some cs.size) :
    (results fn tmps).run P w = .ok (.tuple #[.agg cs, tmps.getD u undef]) w := by
  rw [results_cell_tmp h, hp]
  simp [asAddr, Result.andThen, run_loadVar_row w g t ty cs fr d hg hu hd hi]
def famO (k N : Nat) : OI := if k = 1 then ⟨[], 0, 1, 3, true, N⟩ else if k = 2 then ⟨[], N, N + 1, 3, true, 0⟩ else if k = 3 then ⟨[], N + 1, N + 1, 3, true, 0⟩ else ⟨[], N + 2, 0, 375 * (N + 1), false, 0⟩
/-- What the op of a byte has; no name: there is none. -/
def oi (n : Nat) : OI := if fmK n = 0 then alO n else { famO (fmK n) (fmN n) with nm := (fmS (fmK n)).data.toList ++ dec (fmN n) }
/-- Whether there is one. -/
def isO (n : Nat) : Bool := !(oi n).nm.isEmpty
theorem info_end {w w0 w1 w2 w3 : World} {a0 a1 a2 a3 a4 a5 : Value} {ds : Array Value} (h1 : Blk w1 w.heap.size 25 ds ∧ Blk w1 w0.heap.size 25 #[a0, a1, a2, a3, a4, a5] ∧ Below w.heap.size w w1 ∧ w.heap.size < w0.heap.size) (h2 : Below w1.heap.size w1 w2) (h3 : Blk w3 w0.heap.size 25 #[a0, a1, a2, a3, a4, a5]) (h4 : Below w2.heap.size w2 w3) (R b0 b1 b2 b3 b4 b5 : Value) :
    Blk ((set6 w3 w0.heap.size b0 b1 b2 b3 b4 b5).setCell ⟨w0.heap.size, 0, none⟩ R) w.heap.size 25 ds ∧ Blk ((set6 w3 w0.heap.size b0 b1 b2 b3 b4 b5).setCell ⟨w0.heap.size, 0, none⟩ R) w0.heap.size 25 #[R, b1, b2, b3, b4, b5] ∧ Below w.heap.size w ((set6 w3 w0.heap.size b0 b1 b2 b3 b4 b5).setCell ⟨w0.heap.size, 0, none⟩ R) ∧ w.heap.size < w0.heap.size := by
  have hlt := h1.2.2.2
  have k3 := Blk.keep (Blk.keep h1.1 h2) h4
  have hB : Below w0.heap.size w3 (set6 w3 w0.heap.size b0 b1 b2 b3 b4 b5) := below_set6 (Below.refl _ _) (Nat.le_refl _) _ _ _ _ _ _
  have hB2 : Below w0.heap.size w3 ((set6 w3 w0.heap.size b0 b1 b2 b3 b4 b5).setCell ⟨w0.heap.size, 0, none⟩ R) := hB.setCell (p := ⟨w0.heap.size, 0, none⟩) (Nat.le_refl _) R
  refine ⟨(hB2.block _ hlt).trans k3, heap_setCell_same _ _ 0 _ _ R (Blk.set6 h3 b0 b1 b2 b3 b4 b5), ?_, hlt⟩
  exact (bstep (bstep h1.2.2.1 h2) h4).trans (hB2.mono (by omega))
theorem dec_size : ∀ N, N < 40 → (ByteArray.mk (dec N).toArray).size ≤ 20 := by
  intro N h
  have : ∀ k : Fin 40, (ByteArray.mk (dec k.val).toArray).size ≤ 20 := by decide +kernel
  exact this ⟨N, h⟩
theorem sne_app (s t : ByteArray) (h : 0 < s.size) : ((s ++ t).toList == []) = false := by
  cases hl : (s ++ t).toList with
  | nil =>
    exfalso
    have h2 : (s ++ t).toList.length = 0 := by rw [hl]; rfl
    have h3 := ByteArray.size_append (a := s) (b := t)
    have h4 : (s ++ t).toList.length = (s ++ t).size := by rw [ByteArray.toList_eq]; rfl
    omega
  | cons a l => rfl
theorem oi_new {w w0 w1 : World} {cs ds : Array Value} (hw : Below (w.alloc (.cells ds 25)).heap.size (w.alloc (.cells ds 25)) w0) (he : w0.alloc (.cells cs 25) = w1) :
    Blk w1 w.heap.size 25 ds ∧ Blk w1 w0.heap.size 25 cs ∧ Below w.heap.size w w1 ∧ w.heap.size < w0.heap.size := by
  have h1 : Blk w0 w.heap.size 25 ds := Blk.keep (Blk.new w _ _) hw
  have h2 := hw.size
  rw [World.size_alloc] at h2
  subst he
  exact ⟨h1.alloc _, Blk.new _ _ _, balloc (bstep (balloc (Below.refl _ w) _) hw) _, by omega⟩

theorem Blk.drewn' {X : World} {g : Nat} {t : TypeId} {cs : Array Value} (h : Blk X g t cs) : Blk X.drew g t cs := h
set_option maxRecDepth 100000 in
set_option maxHeartbeats 2000000 in
theorem info_alone (n : Nat) (hn : n < 256) (hk : fmK n = 0) (w : World) : Calls Tryd.prog 10 #[.int .u8 n] w fun e w' => e = .returned (.tuple #[.agg (oiC (alO n)), .bool (!(alO n).nm.isEmpty)]) ∧ Below w.heap.size w w' := by
  have HA := Lib.hid (alone_any n hn)
  have HF := Lib.hid (family_any n hn)
  rw [hk] at HF
  clear hk hn
  generalize alO n = X at HA ⊢
  generalize fmN n = N at HF
  simp only [fmS] at HF
  simp only [oiC] at HA ⊢
  have hq : ((ByteArray.mk X.nm.toArray).toList == []) = X.nm.isEmpty := by cases X.nm <;> simp
  generalize (ByteArray.mk X.nm.toArray) = x0 at *
  go_enter Tryd.func10, Tryd.ntmps10
  go_wp2_with (first
    | (go_at_call 28; refine (HA.out _).mono ?_; rintro e w0 ⟨rfl, hw⟩; have HW := Lib.hid hw; clear hw)
    | (go_at_call 29; refine (HF.out _).mono ?_; rintro e w1 ⟨rfl, rfl⟩)
    | fail)
  obtain ⟨w1, he⟩ : ∃ w1, w0.alloc (.cells #[.string x0, .int .i64 X.i, .int .i64 X.o, .int .u64 X.g, .bool X.q, .int .i64 X.z] 25) = w1 := ⟨_, rfl⟩
  rw [he]
  have HH := Lib.hid (oi_new HW.out he)
  clear HW he
  have hb := HH.out.1
  have hd := HH.out.2.1
  have hlt := HH.out.2.2.2
  have c0 := cell_of_row w1 _ 0 _ _ _ hb
  have c1 := cell_of_row w1 _ 1 _ _ _ hb
  have c2 := cell_of_row w1 _ 2 _ _ _ hb
  have c3 := cell_of_row w1 _ 3 _ _ _ hb
  have c4 := cell_of_row w1 _ 4 _ _ _ hb
  have c5 := cell_of_row w1 _ 5 _ _ _ hb
  have fc0 := frozen_of_row w1 _ 0 _ _ hb
  have fc1 := frozen_of_row w1 _ 1 _ _ hb
  have fc2 := frozen_of_row w1 _ 2 _ _ hb
  have fc3 := frozen_of_row w1 _ 3 _ _ hb
  have fc4 := frozen_of_row w1 _ 4 _ _ hb
  have fc5 := frozen_of_row w1 _ 5 _ _ hb
  have d0 := cell_of_row w1 _ 0 _ _ _ hd
  have d1 := cell_of_row w1 _ 1 _ _ _ hd
  have d2 := cell_of_row w1 _ 2 _ _ _ hd
  have d3 := cell_of_row w1 _ 3 _ _ _ hd
  have d4 := cell_of_row w1 _ 4 _ _ _ hd
  have d5 := cell_of_row w1 _ 5 _ _ _ hd
  have fd0 := frozen_of_row w1 _ 0 _ _ hd
  have fd1 := frozen_of_row w1 _ 1 _ _ hd
  have fd2 := frozen_of_row w1 _ 2 _ _ hd
  have fd3 := frozen_of_row w1 _ 3 _ _ hd
  have fd4 := frozen_of_row w1 _ 4 _ _ hd
  have fd5 := frozen_of_row w1 _ 5 _ _ hd
  clear hb hd
  go_region
  have hset : Blk (set6 w1 w.heap.size (.string x0) (.int .i64 X.i) (.int .i64 X.o) (.int .u64 X.g) (.bool X.q) (.int .i64 X.z)) w.heap.size 25 _ := Blk.set6 HH.out.1 _ _ _ _ _ _
  have hbel : Below w.heap.size w (set6 w1 w.heap.size (.string x0) (.int .i64 X.i) (.int .i64 X.o) (.int .u64 X.g) (.bool X.q) (.int .i64 X.z)) := below_set6 HH.out.2.2.1 (Nat.le_refl _) _ _ _ _ _ _
  have HE := Lib.hid (And.intro hset.drewn' (below_drew' hbel))
  clear hset hbel HH
  unfold set6 at HE
  generalize World.drew _ = Z at HE ⊢
  go_wp2_with fail
  (try simp only [Exit.inBlock, Exit.then])
  refine bodyPost_ret (results_row_tmp rfl _ _ w.heap.size 25 _ (0, 0) (.struct oiFs) rfl HE.out.1 undOI rfl szOI) rfl ?_
  exact ⟨rfl, HE.out.2⟩
set_option maxRecDepth 100000 in
set_option maxHeartbeats 2000000 in
theorem info_fam1 (n N : Nat) (hn : n < 256) (hN : N < 40) (hk : fmK n = 1) (hf : fmN n = N) (w : World) : Calls Tryd.prog 10 #[.int .u8 n] w fun e w' => e = .returned (.tuple #[.agg #[.string (sPush ++ ⟨(dec N).toArray⟩), .int .i64 0, .int .i64 1, .int .u64 3, .bool true, .int .i64 N], .bool true]) ∧ Below w.heap.size w w' := by
  have HA := Lib.hid (alone_any n hn)
  have HF := Lib.hid (family_any n hn)
  have HI := Lib.hid (itoa_any N (by omega))
  have HM := Lib.hid (fam1_any N hN)
  have hz : (ByteArray.mk (dec N).toArray).size ≤ 20 := dec_size N hN
  have hz2 : (sPush ++ (ByteArray.mk (dec N).toArray)).size ≤ 30 := by rw [ByteArray.size_append, show sPush.size = 4 from rfl]; omega
  have hq : ((sPush ++ (ByteArray.mk (dec N).toArray)).toList == []) = false := sne_app _ _ (by decide)
  rw [hk, hf] at HF
  rw [show fmS 1 = sPush from rfl] at HF
  clear hk hf hn hN
  generalize alO n = X at HA
  simp only [oiC] at HA
  generalize (ByteArray.mk X.nm.toArray) = x0 at *
  generalize (ByteArray.mk (dec N).toArray) = D at *
  generalize hR : sPush ++ D = R at *
  have hc : ¬ 9223372036854775807 < 4 + D.size := by omega
  clear hz hz2
  go_enter Tryd.func10, Tryd.ntmps10
  go_upto_region 4 with (first
    | (go_at_call 28; refine (HA.out _).mono ?_; rintro e w0 ⟨rfl, hw⟩; have HW := Lib.hid hw; clear hw)
    | (go_at_call 29; refine (HF.out _).mono ?_; rintro e w1 ⟨rfl, rfl⟩)
    | fail)
  obtain ⟨w1, he⟩ : ∃ w1, w0.alloc (.cells #[.string x0, .int .i64 X.i, .int .i64 X.o, .int .u64 X.g, .bool X.q, .int .i64 X.z] 25) = w1 := ⟨_, rfl⟩
  rw [he]
  have H1 := Lib.hid (oi_new HW.out he)
  clear HW he
  go_upto_region 6 with (first
    | (go_at_call 30; refine (families_any _).mono ?_; rintro e w2 ⟨rfl, hm, hw2⟩; have hlk := look_str _ _ _ _ _ _ w2 hm find_sPush; have H2 := Lib.hid hw2; clear hm hw2)
    | (go_at_call 58; refine (HM.out _).mono ?_; rintro e w3 ⟨rfl, hw3⟩; have hd := Blk.keep (Blk.keep H1.out.2.1 H2.out) hw3
       have d0 := cell_of_row w3 _ 0 _ _ _ hd
       have d1 := cell_of_row w3 _ 1 _ _ _ hd
       have d2 := cell_of_row w3 _ 2 _ _ _ hd
       have d3 := cell_of_row w3 _ 3 _ _ _ hd
       have d4 := cell_of_row w3 _ 4 _ _ _ hd
       have d5 := cell_of_row w3 _ 5 _ _ _ hd
       have fd0 := frozen_of_row w3 _ 0 _ _ hd
       have fd1 := frozen_of_row w3 _ 1 _ _ hd
       have fd2 := frozen_of_row w3 _ 2 _ _ hd
       have fd3 := frozen_of_row w3 _ 3 _ _ hd
       have fd4 := frozen_of_row w3 _ 4 _ _ hd
       have fd5 := frozen_of_row w3 _ 5 _ _ hd
       have H3 := Lib.hid (And.intro hd hw3); clear hd hw3)
    | (go_at_call 31; refine (HI.out _).mono ?_; rintro e w4 ⟨rfl, rfl⟩)
    | fail)
  obtain ⟨w5, he5⟩ : ∃ w5, (set6 w3 w0.heap.size (.string ⟨#[]⟩) (.int .i64 0) (.int .i64 1) (.int .u64 3) (.bool true) (.int .i64 N)).setCell ⟨w0.heap.size, 0, none⟩ (.string R) = w5 := ⟨_, rfl⟩
  rw [show ((((((w3.setCell ⟨w0.heap.size, 0, none⟩ _).setCell ⟨w0.heap.size, 1, none⟩ _).setCell ⟨w0.heap.size, 2, none⟩ _).setCell ⟨w0.heap.size, 3, none⟩ _).setCell ⟨w0.heap.size, 4, none⟩ _).setCell ⟨w0.heap.size, 5, none⟩ _).setCell ⟨w0.heap.size, 0, none⟩ _ = w5 from he5]
  have HH : Hid (Blk w5 w.heap.size 25 _ ∧ Blk w5 w0.heap.size 25 _ ∧ Below w.heap.size w w5 ∧ w.heap.size < w0.heap.size) := Lib.hid (by rw [← he5]; exact info_end H1.out H2.out H3.out.1 H3.out.2 _ _ _ _ _ _ _)
  clear he5 H1 H2 H3 d0 d1 d2 d3 d4 d5 fd0 fd1 fd2 fd3 fd4 fd5 hlk
  have hb := HH.out.1
  have hd := HH.out.2.1
  have hlt := HH.out.2.2.2
  have c0 := cell_of_row w5 _ 0 _ _ _ hb
  have c1 := cell_of_row w5 _ 1 _ _ _ hb
  have c2 := cell_of_row w5 _ 2 _ _ _ hb
  have c3 := cell_of_row w5 _ 3 _ _ _ hb
  have c4 := cell_of_row w5 _ 4 _ _ _ hb
  have c5 := cell_of_row w5 _ 5 _ _ _ hb
  have fc0 := frozen_of_row w5 _ 0 _ _ hb
  have fc1 := frozen_of_row w5 _ 1 _ _ hb
  have fc2 := frozen_of_row w5 _ 2 _ _ hb
  have fc3 := frozen_of_row w5 _ 3 _ _ hb
  have fc4 := frozen_of_row w5 _ 4 _ _ hb
  have fc5 := frozen_of_row w5 _ 5 _ _ hb
  have d0 := cell_of_row w5 _ 0 _ _ _ hd
  have d1 := cell_of_row w5 _ 1 _ _ _ hd
  have d2 := cell_of_row w5 _ 2 _ _ _ hd
  have d3 := cell_of_row w5 _ 3 _ _ _ hd
  have d4 := cell_of_row w5 _ 4 _ _ _ hd
  have d5 := cell_of_row w5 _ 5 _ _ _ hd
  have fd0 := frozen_of_row w5 _ 0 _ _ hd
  have fd1 := frozen_of_row w5 _ 1 _ _ hd
  have fd2 := frozen_of_row w5 _ 2 _ _ hd
  have fd3 := frozen_of_row w5 _ 3 _ _ hd
  have fd4 := frozen_of_row w5 _ 4 _ _ hd
  have fd5 := frozen_of_row w5 _ 5 _ _ hd
  clear hb hd
  go_region
  have hset : Blk (set6 w5 w.heap.size (.string R) (.int .i64 0) (.int .i64 1) (.int .u64 3) (.bool true) (.int .i64 N)) w.heap.size 25 _ := Blk.set6 HH.out.1 _ _ _ _ _ _
  have hbel : Below w.heap.size w (set6 w5 w.heap.size (.string R) (.int .i64 0) (.int .i64 1) (.int .u64 3) (.bool true) (.int .i64 N)) := below_set6 HH.out.2.2.1 (Nat.le_refl _) _ _ _ _ _ _
  have HE := Lib.hid (And.intro hset.drewn' (below_drew' hbel))
  clear hset hbel HH
  unfold set6 at HE
  generalize World.drew _ = Z at HE ⊢
  go_wp2_with fail
  (try simp only [Exit.inBlock, Exit.then])
  refine bodyPost_ret (results_row_tmp rfl _ _ w.heap.size 25 _ (0, 0) (.struct oiFs) rfl HE.out.1 undOI rfl szOI) rfl ?_
  exact ⟨rfl, HE.out.2⟩
set_option maxRecDepth 100000 in
set_option maxHeartbeats 2000000 in
theorem info_fam2 (n N : Nat) (hn : n < 256) (hN : N < 40) (hk : fmK n = 2) (hf : fmN n = N) (w : World) : Calls Tryd.prog 10 #[.int .u8 n] w fun e w' => e = .returned (.tuple #[.agg #[.string (sDup ++ ⟨(dec N).toArray⟩), .int .i64 N, .int .i64 (N + 1 : Nat), .int .u64 3, .bool true, .int .i64 0], .bool true]) ∧ Below w.heap.size w w' := by
  have HA := Lib.hid (alone_any n hn)
  have HF := Lib.hid (family_any n hn)
  have HI := Lib.hid (itoa_any N (by omega))
  have HM := Lib.hid (fam2_any N hN)
  have hz : (ByteArray.mk (dec N).toArray).size ≤ 20 := dec_size N hN
  have hz2 : (sDup ++ (ByteArray.mk (dec N).toArray)).size ≤ 30 := by rw [ByteArray.size_append, show sDup.size = 3 from rfl]; omega
  have hq : ((sDup ++ (ByteArray.mk (dec N).toArray)).toList == []) = false := sne_app _ _ (by decide)
  rw [hk, hf] at HF
  generalize N + 1 = M at HM ⊢
  rw [show fmS 2 = sDup from rfl] at HF
  clear hk hf hn hN
  generalize alO n = X at HA
  simp only [oiC] at HA
  generalize (ByteArray.mk X.nm.toArray) = x0 at *
  generalize (ByteArray.mk (dec N).toArray) = D at *
  generalize hR : sDup ++ D = R at *
  have hc : ¬ 9223372036854775807 < 3 + D.size := by omega
  clear hz hz2
  go_enter Tryd.func10, Tryd.ntmps10
  go_upto_region 4 with (first
    | (go_at_call 28; refine (HA.out _).mono ?_; rintro e w0 ⟨rfl, hw⟩; have HW := Lib.hid hw; clear hw)
    | (go_at_call 29; refine (HF.out _).mono ?_; rintro e w1 ⟨rfl, rfl⟩)
    | fail)
  obtain ⟨w1, he⟩ : ∃ w1, w0.alloc (.cells #[.string x0, .int .i64 X.i, .int .i64 X.o, .int .u64 X.g, .bool X.q, .int .i64 X.z] 25) = w1 := ⟨_, rfl⟩
  rw [he]
  have H1 := Lib.hid (oi_new HW.out he)
  clear HW he
  go_upto_region 6 with (first
    | (go_at_call 30; refine (families_any _).mono ?_; rintro e w2 ⟨rfl, hm, hw2⟩; have hlk := look_str _ _ _ _ _ _ w2 hm find_sDup; have H2 := Lib.hid hw2; clear hm hw2)
    | (go_at_call 59; refine (HM.out _).mono ?_; rintro e w3 ⟨rfl, hw3⟩; have hd := Blk.keep (Blk.keep H1.out.2.1 H2.out) hw3
       have d0 := cell_of_row w3 _ 0 _ _ _ hd
       have d1 := cell_of_row w3 _ 1 _ _ _ hd
       have d2 := cell_of_row w3 _ 2 _ _ _ hd
       have d3 := cell_of_row w3 _ 3 _ _ _ hd
       have d4 := cell_of_row w3 _ 4 _ _ _ hd
       have d5 := cell_of_row w3 _ 5 _ _ _ hd
       have fd0 := frozen_of_row w3 _ 0 _ _ hd
       have fd1 := frozen_of_row w3 _ 1 _ _ hd
       have fd2 := frozen_of_row w3 _ 2 _ _ hd
       have fd3 := frozen_of_row w3 _ 3 _ _ hd
       have fd4 := frozen_of_row w3 _ 4 _ _ hd
       have fd5 := frozen_of_row w3 _ 5 _ _ hd
       have H3 := Lib.hid (And.intro hd hw3); clear hd hw3)
    | (go_at_call 31; refine (HI.out _).mono ?_; rintro e w4 ⟨rfl, rfl⟩)
    | fail)
  obtain ⟨w5, he5⟩ : ∃ w5, (set6 w3 w0.heap.size (.string ⟨#[]⟩) (.int .i64 N) (.int .i64 M) (.int .u64 3) (.bool true) (.int .i64 0)).setCell ⟨w0.heap.size, 0, none⟩ (.string R) = w5 := ⟨_, rfl⟩
  rw [show ((((((w3.setCell ⟨w0.heap.size, 0, none⟩ _).setCell ⟨w0.heap.size, 1, none⟩ _).setCell ⟨w0.heap.size, 2, none⟩ _).setCell ⟨w0.heap.size, 3, none⟩ _).setCell ⟨w0.heap.size, 4, none⟩ _).setCell ⟨w0.heap.size, 5, none⟩ _).setCell ⟨w0.heap.size, 0, none⟩ _ = w5 from he5]
  have HH : Hid (Blk w5 w.heap.size 25 _ ∧ Blk w5 w0.heap.size 25 _ ∧ Below w.heap.size w w5 ∧ w.heap.size < w0.heap.size) := Lib.hid (by rw [← he5]; exact info_end H1.out H2.out H3.out.1 H3.out.2 _ _ _ _ _ _ _)
  clear he5 H1 H2 H3 d0 d1 d2 d3 d4 d5 fd0 fd1 fd2 fd3 fd4 fd5 hlk
  have hb := HH.out.1
  have hd := HH.out.2.1
  have hlt := HH.out.2.2.2
  have c0 := cell_of_row w5 _ 0 _ _ _ hb
  have c1 := cell_of_row w5 _ 1 _ _ _ hb
  have c2 := cell_of_row w5 _ 2 _ _ _ hb
  have c3 := cell_of_row w5 _ 3 _ _ _ hb
  have c4 := cell_of_row w5 _ 4 _ _ _ hb
  have c5 := cell_of_row w5 _ 5 _ _ _ hb
  have fc0 := frozen_of_row w5 _ 0 _ _ hb
  have fc1 := frozen_of_row w5 _ 1 _ _ hb
  have fc2 := frozen_of_row w5 _ 2 _ _ hb
  have fc3 := frozen_of_row w5 _ 3 _ _ hb
  have fc4 := frozen_of_row w5 _ 4 _ _ hb
  have fc5 := frozen_of_row w5 _ 5 _ _ hb
  have d0 := cell_of_row w5 _ 0 _ _ _ hd
  have d1 := cell_of_row w5 _ 1 _ _ _ hd
  have d2 := cell_of_row w5 _ 2 _ _ _ hd
  have d3 := cell_of_row w5 _ 3 _ _ _ hd
  have d4 := cell_of_row w5 _ 4 _ _ _ hd
  have d5 := cell_of_row w5 _ 5 _ _ _ hd
  have fd0 := frozen_of_row w5 _ 0 _ _ hd
  have fd1 := frozen_of_row w5 _ 1 _ _ hd
  have fd2 := frozen_of_row w5 _ 2 _ _ hd
  have fd3 := frozen_of_row w5 _ 3 _ _ hd
  have fd4 := frozen_of_row w5 _ 4 _ _ hd
  have fd5 := frozen_of_row w5 _ 5 _ _ hd
  clear hb hd
  go_region
  have hset : Blk (set6 w5 w.heap.size (.string R) (.int .i64 N) (.int .i64 M) (.int .u64 3) (.bool true) (.int .i64 0)) w.heap.size 25 _ := Blk.set6 HH.out.1 _ _ _ _ _ _
  have hbel : Below w.heap.size w (set6 w5 w.heap.size (.string R) (.int .i64 N) (.int .i64 M) (.int .u64 3) (.bool true) (.int .i64 0)) := below_set6 HH.out.2.2.1 (Nat.le_refl _) _ _ _ _ _ _
  have HE := Lib.hid (And.intro hset.drewn' (below_drew' hbel))
  clear hset hbel HH
  unfold set6 at HE
  generalize World.drew _ = Z at HE ⊢
  go_wp2_with fail
  (try simp only [Exit.inBlock, Exit.then])
  refine bodyPost_ret (results_row_tmp rfl _ _ w.heap.size 25 _ (0, 0) (.struct oiFs) rfl HE.out.1 undOI rfl szOI) rfl ?_
  exact ⟨rfl, HE.out.2⟩
set_option maxRecDepth 100000 in
set_option maxHeartbeats 2000000 in
theorem info_fam3 (n N : Nat) (hn : n < 256) (hN : N < 40) (hk : fmK n = 3) (hf : fmN n = N) (w : World) : Calls Tryd.prog 10 #[.int .u8 n] w fun e w' => e = .returned (.tuple #[.agg #[.string (sSwap ++ ⟨(dec N).toArray⟩), .int .i64 (N + 1 : Nat), .int .i64 (N + 1 : Nat), .int .u64 3, .bool true, .int .i64 0], .bool true]) ∧ Below w.heap.size w w' := by
  have HA := Lib.hid (alone_any n hn)
  have HF := Lib.hid (family_any n hn)
  have HI := Lib.hid (itoa_any N (by omega))
  have HM := Lib.hid (fam3_any N hN)
  have hz : (ByteArray.mk (dec N).toArray).size ≤ 20 := dec_size N hN
  have hz2 : (sSwap ++ (ByteArray.mk (dec N).toArray)).size ≤ 30 := by rw [ByteArray.size_append, show sSwap.size = 4 from rfl]; omega
  have hq : ((sSwap ++ (ByteArray.mk (dec N).toArray)).toList == []) = false := sne_app _ _ (by decide)
  rw [hk, hf] at HF
  generalize N + 1 = M at HM ⊢
  rw [show fmS 3 = sSwap from rfl] at HF
  clear hk hf hn hN
  generalize alO n = X at HA
  simp only [oiC] at HA
  generalize (ByteArray.mk X.nm.toArray) = x0 at *
  generalize (ByteArray.mk (dec N).toArray) = D at *
  generalize hR : sSwap ++ D = R at *
  have hc : ¬ 9223372036854775807 < 4 + D.size := by omega
  clear hz hz2
  go_enter Tryd.func10, Tryd.ntmps10
  go_upto_region 4 with (first
    | (go_at_call 28; refine (HA.out _).mono ?_; rintro e w0 ⟨rfl, hw⟩; have HW := Lib.hid hw; clear hw)
    | (go_at_call 29; refine (HF.out _).mono ?_; rintro e w1 ⟨rfl, rfl⟩)
    | fail)
  obtain ⟨w1, he⟩ : ∃ w1, w0.alloc (.cells #[.string x0, .int .i64 X.i, .int .i64 X.o, .int .u64 X.g, .bool X.q, .int .i64 X.z] 25) = w1 := ⟨_, rfl⟩
  rw [he]
  have H1 := Lib.hid (oi_new HW.out he)
  clear HW he
  go_upto_region 6 with (first
    | (go_at_call 30; refine (families_any _).mono ?_; rintro e w2 ⟨rfl, hm, hw2⟩; have hlk := look_str _ _ _ _ _ _ w2 hm find_sSwap; have H2 := Lib.hid hw2; clear hm hw2)
    | (go_at_call 60; refine (HM.out _).mono ?_; rintro e w3 ⟨rfl, hw3⟩; have hd := Blk.keep (Blk.keep H1.out.2.1 H2.out) hw3
       have d0 := cell_of_row w3 _ 0 _ _ _ hd
       have d1 := cell_of_row w3 _ 1 _ _ _ hd
       have d2 := cell_of_row w3 _ 2 _ _ _ hd
       have d3 := cell_of_row w3 _ 3 _ _ _ hd
       have d4 := cell_of_row w3 _ 4 _ _ _ hd
       have d5 := cell_of_row w3 _ 5 _ _ _ hd
       have fd0 := frozen_of_row w3 _ 0 _ _ hd
       have fd1 := frozen_of_row w3 _ 1 _ _ hd
       have fd2 := frozen_of_row w3 _ 2 _ _ hd
       have fd3 := frozen_of_row w3 _ 3 _ _ hd
       have fd4 := frozen_of_row w3 _ 4 _ _ hd
       have fd5 := frozen_of_row w3 _ 5 _ _ hd
       have H3 := Lib.hid (And.intro hd hw3); clear hd hw3)
    | (go_at_call 31; refine (HI.out _).mono ?_; rintro e w4 ⟨rfl, rfl⟩)
    | fail)
  obtain ⟨w5, he5⟩ : ∃ w5, (set6 w3 w0.heap.size (.string ⟨#[]⟩) (.int .i64 M) (.int .i64 M) (.int .u64 3) (.bool true) (.int .i64 0)).setCell ⟨w0.heap.size, 0, none⟩ (.string R) = w5 := ⟨_, rfl⟩
  rw [show ((((((w3.setCell ⟨w0.heap.size, 0, none⟩ _).setCell ⟨w0.heap.size, 1, none⟩ _).setCell ⟨w0.heap.size, 2, none⟩ _).setCell ⟨w0.heap.size, 3, none⟩ _).setCell ⟨w0.heap.size, 4, none⟩ _).setCell ⟨w0.heap.size, 5, none⟩ _).setCell ⟨w0.heap.size, 0, none⟩ _ = w5 from he5]
  have HH : Hid (Blk w5 w.heap.size 25 _ ∧ Blk w5 w0.heap.size 25 _ ∧ Below w.heap.size w w5 ∧ w.heap.size < w0.heap.size) := Lib.hid (by rw [← he5]; exact info_end H1.out H2.out H3.out.1 H3.out.2 _ _ _ _ _ _ _)
  clear he5 H1 H2 H3 d0 d1 d2 d3 d4 d5 fd0 fd1 fd2 fd3 fd4 fd5 hlk
  have hb := HH.out.1
  have hd := HH.out.2.1
  have hlt := HH.out.2.2.2
  have c0 := cell_of_row w5 _ 0 _ _ _ hb
  have c1 := cell_of_row w5 _ 1 _ _ _ hb
  have c2 := cell_of_row w5 _ 2 _ _ _ hb
  have c3 := cell_of_row w5 _ 3 _ _ _ hb
  have c4 := cell_of_row w5 _ 4 _ _ _ hb
  have c5 := cell_of_row w5 _ 5 _ _ _ hb
  have fc0 := frozen_of_row w5 _ 0 _ _ hb
  have fc1 := frozen_of_row w5 _ 1 _ _ hb
  have fc2 := frozen_of_row w5 _ 2 _ _ hb
  have fc3 := frozen_of_row w5 _ 3 _ _ hb
  have fc4 := frozen_of_row w5 _ 4 _ _ hb
  have fc5 := frozen_of_row w5 _ 5 _ _ hb
  have d0 := cell_of_row w5 _ 0 _ _ _ hd
  have d1 := cell_of_row w5 _ 1 _ _ _ hd
  have d2 := cell_of_row w5 _ 2 _ _ _ hd
  have d3 := cell_of_row w5 _ 3 _ _ _ hd
  have d4 := cell_of_row w5 _ 4 _ _ _ hd
  have d5 := cell_of_row w5 _ 5 _ _ _ hd
  have fd0 := frozen_of_row w5 _ 0 _ _ hd
  have fd1 := frozen_of_row w5 _ 1 _ _ hd
  have fd2 := frozen_of_row w5 _ 2 _ _ hd
  have fd3 := frozen_of_row w5 _ 3 _ _ hd
  have fd4 := frozen_of_row w5 _ 4 _ _ hd
  have fd5 := frozen_of_row w5 _ 5 _ _ hd
  clear hb hd
  go_region
  have hset : Blk (set6 w5 w.heap.size (.string R) (.int .i64 M) (.int .i64 M) (.int .u64 3) (.bool true) (.int .i64 0)) w.heap.size 25 _ := Blk.set6 HH.out.1 _ _ _ _ _ _
  have hbel : Below w.heap.size w (set6 w5 w.heap.size (.string R) (.int .i64 M) (.int .i64 M) (.int .u64 3) (.bool true) (.int .i64 0)) := below_set6 HH.out.2.2.1 (Nat.le_refl _) _ _ _ _ _ _
  have HE := Lib.hid (And.intro hset.drewn' (below_drew' hbel))
  clear hset hbel HH
  unfold set6 at HE
  generalize World.drew _ = Z at HE ⊢
  go_wp2_with fail
  (try simp only [Exit.inBlock, Exit.then])
  refine bodyPost_ret (results_row_tmp rfl _ _ w.heap.size 25 _ (0, 0) (.struct oiFs) rfl HE.out.1 undOI rfl szOI) rfl ?_
  exact ⟨rfl, HE.out.2⟩
set_option maxRecDepth 100000 in
set_option maxHeartbeats 2000000 in
theorem info_fam4 (n N : Nat) (hn : n < 256) (hN : N < 40) (hk : fmK n = 4) (hf : fmN n = N) (w : World) : Calls Tryd.prog 10 #[.int .u8 n] w fun e w' => e = .returned (.tuple #[.agg #[.string (sLog ++ ⟨(dec N).toArray⟩), .int .i64 (N + 2 : Nat), .int .i64 0, .int .u64 (375 * (N + 1) : Nat), .bool false, .int .i64 0], .bool true]) ∧ Below w.heap.size w w' := by
  have HA := Lib.hid (alone_any n hn)
  have HF := Lib.hid (family_any n hn)
  have HI := Lib.hid (itoa_any N (by omega))
  have HM := Lib.hid (fam4_any N hN)
  have hz : (ByteArray.mk (dec N).toArray).size ≤ 20 := dec_size N hN
  have hz2 : (sLog ++ (ByteArray.mk (dec N).toArray)).size ≤ 30 := by rw [ByteArray.size_append, show sLog.size = 3 from rfl]; omega
  have hq : ((sLog ++ (ByteArray.mk (dec N).toArray)).toList == []) = false := sne_app _ _ (by decide)
  rw [hk, hf] at HF
  generalize 375 * (N + 1) = G at HM ⊢
  generalize N + 2 = M at HM ⊢
  rw [show fmS 4 = sLog from rfl] at HF
  clear hk hf hn hN
  generalize alO n = X at HA
  simp only [oiC] at HA
  generalize (ByteArray.mk X.nm.toArray) = x0 at *
  generalize (ByteArray.mk (dec N).toArray) = D at *
  generalize hR : sLog ++ D = R at *
  have hc : ¬ 9223372036854775807 < 3 + D.size := by omega
  clear hz hz2
  go_enter Tryd.func10, Tryd.ntmps10
  go_upto_region 4 with (first
    | (go_at_call 28; refine (HA.out _).mono ?_; rintro e w0 ⟨rfl, hw⟩; have HW := Lib.hid hw; clear hw)
    | (go_at_call 29; refine (HF.out _).mono ?_; rintro e w1 ⟨rfl, rfl⟩)
    | fail)
  obtain ⟨w1, he⟩ : ∃ w1, w0.alloc (.cells #[.string x0, .int .i64 X.i, .int .i64 X.o, .int .u64 X.g, .bool X.q, .int .i64 X.z] 25) = w1 := ⟨_, rfl⟩
  rw [he]
  have H1 := Lib.hid (oi_new HW.out he)
  clear HW he
  go_upto_region 6 with (first
    | (go_at_call 30; refine (families_any _).mono ?_; rintro e w2 ⟨rfl, hm, hw2⟩; have hlk := look_str _ _ _ _ _ _ w2 hm find_sLog; have H2 := Lib.hid hw2; clear hm hw2)
    | (go_at_call 61; refine (HM.out _).mono ?_; rintro e w3 ⟨rfl, hw3⟩; have hd := Blk.keep (Blk.keep H1.out.2.1 H2.out) hw3
       have d0 := cell_of_row w3 _ 0 _ _ _ hd
       have d1 := cell_of_row w3 _ 1 _ _ _ hd
       have d2 := cell_of_row w3 _ 2 _ _ _ hd
       have d3 := cell_of_row w3 _ 3 _ _ _ hd
       have d4 := cell_of_row w3 _ 4 _ _ _ hd
       have d5 := cell_of_row w3 _ 5 _ _ _ hd
       have fd0 := frozen_of_row w3 _ 0 _ _ hd
       have fd1 := frozen_of_row w3 _ 1 _ _ hd
       have fd2 := frozen_of_row w3 _ 2 _ _ hd
       have fd3 := frozen_of_row w3 _ 3 _ _ hd
       have fd4 := frozen_of_row w3 _ 4 _ _ hd
       have fd5 := frozen_of_row w3 _ 5 _ _ hd
       have H3 := Lib.hid (And.intro hd hw3); clear hd hw3)
    | (go_at_call 31; refine (HI.out _).mono ?_; rintro e w4 ⟨rfl, rfl⟩)
    | fail)
  obtain ⟨w5, he5⟩ : ∃ w5, (set6 w3 w0.heap.size (.string ⟨#[]⟩) (.int .i64 M) (.int .i64 0) (.int .u64 G) (.bool false) (.int .i64 0)).setCell ⟨w0.heap.size, 0, none⟩ (.string R) = w5 := ⟨_, rfl⟩
  rw [show ((((((w3.setCell ⟨w0.heap.size, 0, none⟩ _).setCell ⟨w0.heap.size, 1, none⟩ _).setCell ⟨w0.heap.size, 2, none⟩ _).setCell ⟨w0.heap.size, 3, none⟩ _).setCell ⟨w0.heap.size, 4, none⟩ _).setCell ⟨w0.heap.size, 5, none⟩ _).setCell ⟨w0.heap.size, 0, none⟩ _ = w5 from he5]
  have HH : Hid (Blk w5 w.heap.size 25 _ ∧ Blk w5 w0.heap.size 25 _ ∧ Below w.heap.size w w5 ∧ w.heap.size < w0.heap.size) := Lib.hid (by rw [← he5]; exact info_end H1.out H2.out H3.out.1 H3.out.2 _ _ _ _ _ _ _)
  clear he5 H1 H2 H3 d0 d1 d2 d3 d4 d5 fd0 fd1 fd2 fd3 fd4 fd5 hlk
  have hb := HH.out.1
  have hd := HH.out.2.1
  have hlt := HH.out.2.2.2
  have c0 := cell_of_row w5 _ 0 _ _ _ hb
  have c1 := cell_of_row w5 _ 1 _ _ _ hb
  have c2 := cell_of_row w5 _ 2 _ _ _ hb
  have c3 := cell_of_row w5 _ 3 _ _ _ hb
  have c4 := cell_of_row w5 _ 4 _ _ _ hb
  have c5 := cell_of_row w5 _ 5 _ _ _ hb
  have fc0 := frozen_of_row w5 _ 0 _ _ hb
  have fc1 := frozen_of_row w5 _ 1 _ _ hb
  have fc2 := frozen_of_row w5 _ 2 _ _ hb
  have fc3 := frozen_of_row w5 _ 3 _ _ hb
  have fc4 := frozen_of_row w5 _ 4 _ _ hb
  have fc5 := frozen_of_row w5 _ 5 _ _ hb
  have d0 := cell_of_row w5 _ 0 _ _ _ hd
  have d1 := cell_of_row w5 _ 1 _ _ _ hd
  have d2 := cell_of_row w5 _ 2 _ _ _ hd
  have d3 := cell_of_row w5 _ 3 _ _ _ hd
  have d4 := cell_of_row w5 _ 4 _ _ _ hd
  have d5 := cell_of_row w5 _ 5 _ _ _ hd
  have fd0 := frozen_of_row w5 _ 0 _ _ hd
  have fd1 := frozen_of_row w5 _ 1 _ _ hd
  have fd2 := frozen_of_row w5 _ 2 _ _ hd
  have fd3 := frozen_of_row w5 _ 3 _ _ hd
  have fd4 := frozen_of_row w5 _ 4 _ _ hd
  have fd5 := frozen_of_row w5 _ 5 _ _ hd
  clear hb hd
  go_region
  have hset : Blk (set6 w5 w.heap.size (.string R) (.int .i64 M) (.int .i64 0) (.int .u64 G) (.bool false) (.int .i64 0)) w.heap.size 25 _ := Blk.set6 HH.out.1 _ _ _ _ _ _
  have hbel : Below w.heap.size w (set6 w5 w.heap.size (.string R) (.int .i64 M) (.int .i64 0) (.int .u64 G) (.bool false) (.int .i64 0)) := below_set6 HH.out.2.2.1 (Nat.le_refl _) _ _ _ _ _ _
  have HE := Lib.hid (And.intro hset.drewn' (below_drew' hbel))
  clear hset hbel HH
  unfold set6 at HE
  generalize World.drew _ = Z at HE ⊢
  go_wp2_with fail
  (try simp only [Exit.inBlock, Exit.then])
  refine bodyPost_ret (results_row_tmp rfl _ _ w.heap.size 25 _ (0, 0) (.struct oiFs) rfl HE.out.1 undOI rfl szOI) rfl ?_
  exact ⟨rfl, HE.out.2⟩
end Go.Proofs.YtcdmaapjcckbmaaDoor
