/- code: the families, their map, which one an op belongs to. -/
import Derived.Test.YtcdmaapjcckbmaaDoorXc
import Derived.MapKept
namespace Go.Proofs.YtcdmaapjcckbmaaDoor
open Go.RowKit Go.Shelf

theorem undMW : Tryd.prog.underlying 59 = some (.map 9 58) := by kernel_rfl
theorem undKS : Tryd.prog.underlying 9 = some .string := by kernel_rfl
theorem mk_mapW (w : World) : (Instr.makeMap 59 none).run Tryd.prog w = .ok (.map (some w.heap.size)) (w.alloc (.map #[] 0)) := by kernel_rfl
theorem check_str (e : Bool) (s : ByteArray) (w : World) : (Instr.checkKey e 10000 9 (.string s)).run Tryd.prog w = .ok () w := by
  rw [show (10000 : Nat) = 9999 + 1 from rfl]
  unfold Instr.checkKey
  simp [run_underlying undKS]
theorem find_str (s : ByteArray) (es : List MapEntry) (r : Option (Nat × Value)) (h : Instr.findNow .string (.string s) es 0 = some r) (w : World) : (Instr.findKey 9 (.string s) es).run Tryd.prog w = .ok r w := by
  unfold Instr.findKey
  simp [run_underlying undKS, h]
theorem gob_mapW {P : Program} {w : World} {r : Nat} {es : Array MapEntry} {clock : Nat} (hb : w.heap[r]? = some (.map es clock)) : (getObj r).run P w = .ok (.map es clock) w := by simp [getObj, Sem.run, hb]
theorem sob_mapW {P : Program} {w : World} {r : Nat} {es : Array MapEntry} {clock : Nat} (o : Obj) (hb : w.heap[r]? = some (.map es clock)) : (setObj r o).run P w = .ok () (w.putObj r o) := by simp [setObj, Sem.run, hb, World.putObj]
theorem ins_str (b : Nat) (es : Array MapEntry) (c : Nat) (k : ByteArray) (f : Value) (w : World) (hb : w.heap[b]? = some (.map es c)) (hno : Instr.findNow .string (.string k) es.toList 0 = some none) :
    (Instr.mapUpdate 59 (.map (some b)) (.string k) f).run Tryd.prog w = .ok () (w.putObj b (.map (es.push { key := .string k, val := f, born := c }) (c + 1))) := by
  unfold Instr.mapUpdate
  simp [run_underlying undMW, gob_mapW hb, check_str, find_str k _ _ hno, sob_mapW _ hb]
theorem look_str (b : Nat) (es : Array MapEntry) (c : Nat) (k : ByteArray) (i : Nat) (v : Value) (w : World) (hb : w.heap[b]? = some (.map es c)) (hat : Instr.findNow .string (.string k) es.toList 0 = some (some (i, v))) :
    (Instr.lookup 59 (.map (some b)) (.string k) false).run Tryd.prog w = .ok v w := by
  unfold Instr.lookup
  simp [run_underlying undMW, gob_mapW hb, check_str, find_str k _ _ hat]
abbrev sPush : ByteArray := ⟨#[80, 85, 83, 72]⟩
abbrev sDup : ByteArray := ⟨#[68, 85, 80]⟩
abbrev sSwap : ByteArray := ⟨#[83, 87, 65, 80]⟩
abbrev sLog : ByteArray := ⟨#[76, 79, 71]⟩
/-- The map of families. -/
def fES : Array MapEntry := #[{ key := .string sPush, val := .func (.func 58) #[] #[], born := 0 }, { key := .string sDup, val := .func (.func 59) #[] #[], born := 1 }, { key := .string sSwap, val := .func (.func 60) #[] #[], born := 2 }, { key := .string sLog, val := .func (.func 61) #[] #[], born := 3 }]
def FM (w : World) (b : Nat) : Prop := w.heap[b]? = some (.map fES 4)
theorem find_sPush : Instr.findNow .string (.string sPush) fES.toList 0 = some (some (0, .func (.func 58) #[] #[])) := by kernel_rfl
theorem find_sDup : Instr.findNow .string (.string sDup) fES.toList 0 = some (some (1, .func (.func 59) #[] #[])) := by kernel_rfl
theorem find_sSwap : Instr.findNow .string (.string sSwap) fES.toList 0 = some (some (2, .func (.func 60) #[] #[])) := by kernel_rfl
theorem find_sLog : Instr.findNow .string (.string sLog) fES.toList 0 = some (some (3, .func (.func 61) #[] #[])) := by kernel_rfl
set_option maxRecDepth 100000 in
set_option maxHeartbeats 2000000 in
theorem families_any (w : World) :
    Calls Tryd.prog 30 #[] w fun e w' => e = .returned (.map (some w.heap.size)) ∧ FM w' w.heap.size ∧ Below w.heap.size w w' := by
  have i0 := ins_str w.heap.size #[] 0 sPush (.func (.func 58) #[] #[]) (w.alloc (.map #[] 0)) (World.alloc_heap_new w _) rfl
  obtain ⟨w1, hw1⟩ : ∃ w1, (w.alloc (.map #[] 0)).putObj w.heap.size (.map (#[].push { key := .string sPush, val := .func (.func 58) #[] #[], born := 0 }) (0 + 1)) = w1 := ⟨_, rfl⟩
  have h1 : w1.heap[w.heap.size]? = some (.map (#[].push { key := .string sPush, val := .func (.func 58) #[] #[], born := 0 }) (0 + 1)) := by rw [← hw1]; exact World.putObj_heap_same (by simp)
  have b1 : Below w.heap.size w w1 := by rw [← hw1]; exact ((Below.refl _ w).alloc (Nat.le_refl _) _).trans (below_put _ _ (Nat.le_refl _))
  rw [hw1] at i0
  have i1 := ins_str w.heap.size _ _ sDup (.func (.func 59) #[] #[]) w1 h1 (by kernel_rfl)
  obtain ⟨w2, hw2⟩ : ∃ w2, w1.putObj w.heap.size (.map ((#[].push { key := .string sPush, val := .func (.func 58) #[] #[], born := 0 }).push { key := .string sDup, val := .func (.func 59) #[] #[], born := 0 + 1 }) (0 + 1 + 1)) = w2 := ⟨_, rfl⟩
  have hl1 := (Array.getElem?_eq_some_iff.1 h1).1
  have h2 : w2.heap[w.heap.size]? = some (.map ((#[].push { key := .string sPush, val := .func (.func 58) #[] #[], born := 0 }).push { key := .string sDup, val := .func (.func 59) #[] #[], born := 0 + 1 }) (0 + 1 + 1)) := by rw [← hw2]; exact World.putObj_heap_same hl1
  have b2 : Below w.heap.size w w2 := by rw [← hw2]; exact b1.trans (below_put _ _ (Nat.le_refl _))
  rw [hw2] at i1
  have i2 := ins_str w.heap.size _ _ sSwap (.func (.func 60) #[] #[]) w2 h2 (by kernel_rfl)
  obtain ⟨w3, hw3⟩ : ∃ w3, w2.putObj w.heap.size (.map (((#[].push { key := .string sPush, val := .func (.func 58) #[] #[], born := 0 }).push { key := .string sDup, val := .func (.func 59) #[] #[], born := 0 + 1 }).push { key := .string sSwap, val := .func (.func 60) #[] #[], born := 0 + 1 + 1 }) (0 + 1 + 1 + 1)) = w3 := ⟨_, rfl⟩
  have hl2 := (Array.getElem?_eq_some_iff.1 h2).1
  have h3 : w3.heap[w.heap.size]? = some (.map (((#[].push { key := .string sPush, val := .func (.func 58) #[] #[], born := 0 }).push { key := .string sDup, val := .func (.func 59) #[] #[], born := 0 + 1 }).push { key := .string sSwap, val := .func (.func 60) #[] #[], born := 0 + 1 + 1 }) (0 + 1 + 1 + 1)) := by rw [← hw3]; exact World.putObj_heap_same hl2
  have b3 : Below w.heap.size w w3 := by rw [← hw3]; exact b2.trans (below_put _ _ (Nat.le_refl _))
  rw [hw3] at i2
  have i3 := ins_str w.heap.size _ _ sLog (.func (.func 61) #[] #[]) w3 h3 (by kernel_rfl)
  obtain ⟨w4, hw4⟩ : ∃ w4, w3.putObj w.heap.size (.map ((((#[].push { key := .string sPush, val := .func (.func 58) #[] #[], born := 0 }).push { key := .string sDup, val := .func (.func 59) #[] #[], born := 0 + 1 }).push { key := .string sSwap, val := .func (.func 60) #[] #[], born := 0 + 1 + 1 }).push { key := .string sLog, val := .func (.func 61) #[] #[], born := 0 + 1 + 1 + 1 }) (0 + 1 + 1 + 1 + 1)) = w4 := ⟨_, rfl⟩
  have hl3 := (Array.getElem?_eq_some_iff.1 h3).1
  have h4 : FM w4 w.heap.size := by rw [← hw4]; exact World.putObj_heap_same hl3
  have b4 : Below w.heap.size w w4 := by rw [← hw4]; exact b3.trans (below_put _ _ (Nat.le_refl _))
  rw [hw4] at i3
  have hmm := mk_mapW w
  have HF := Lib.hid (And.intro h4 b4)
  clear hw1 hw2 hw3 hw4 h1 h2 h3 h4 b1 b2 b3 b4 hl1 hl2 hl3
  go_enter Tryd.func30, Tryd.ntmps30
  go_wp2_with fail
  go_ret
  exact ⟨rfl, HF.out⟩
set_option maxRecDepth 100000 in
theorem fam1_any (k : Nat) (_ : k < 40) (w : World) : Calls Tryd.prog 58 #[.int .i64 k] w fun e w' => e = .returned (.agg #[.string ⟨#[]⟩, .int .i64 0, .int .i64 1, .int .u64 3, .bool true, .int .i64 k]) ∧ Below w.heap.size w w' := by
  go_enter Tryd.func58, Tryd.ntmps58
  go_wp2_with fail
  (try simp only [Exit.inBlock, Exit.then])
  refine bodyPost_ret (results_cell_row rfl _ _ w.heap.size 25 _ (0, 0) (.struct oiFs) rfl (heap_alloc_new w _) undOI rfl szOI) rfl ?_
  exact ⟨by simp, balloc (Below.refl _ _) _⟩
set_option maxRecDepth 100000 in
theorem fam2_any (k : Nat) (hk : k < 40) (w : World) : Calls Tryd.prog 59 #[.int .i64 k] w fun e w' => e = .returned (.agg #[.string ⟨#[]⟩, .int .i64 k, .int .i64 (k + 1 : Nat), .int .u64 3, .bool true, .int .i64 0]) ∧ Below w.heap.size w w' := by
  have g1 : IntKind.i64.wrap ((k : Int) + 1) = ((k + 1 : Nat) : Int) := by rw [IntWalk.i64_in _ (by omega)]; omega
  go_enter Tryd.func59, Tryd.ntmps59
  go_wp2_with fail
  (try simp only [Exit.inBlock, Exit.then])
  refine bodyPost_ret (results_cell_row rfl _ _ w.heap.size 25 _ (0, 0) (.struct oiFs) rfl (heap_alloc_new w _) undOI rfl szOI) rfl ?_
  exact ⟨by simp, balloc (Below.refl _ _) _⟩
set_option maxRecDepth 100000 in
theorem fam3_any (k : Nat) (hk : k < 40) (w : World) : Calls Tryd.prog 60 #[.int .i64 k] w fun e w' => e = .returned (.agg #[.string ⟨#[]⟩, .int .i64 (k + 1 : Nat), .int .i64 (k + 1 : Nat), .int .u64 3, .bool true, .int .i64 0]) ∧ Below w.heap.size w w' := by
  have g1 : IntKind.i64.wrap ((k : Int) + 1) = ((k + 1 : Nat) : Int) := by rw [IntWalk.i64_in _ (by omega)]; omega
  go_enter Tryd.func60, Tryd.ntmps60
  go_wp2_with fail
  (try simp only [Exit.inBlock, Exit.then])
  refine bodyPost_ret (results_cell_row rfl _ _ w.heap.size 25 _ (0, 0) (.struct oiFs) rfl (heap_alloc_new w _) undOI rfl szOI) rfl ?_
  exact ⟨by simp, balloc (Below.refl _ _) _⟩
set_option maxRecDepth 100000 in
theorem fam4_any (k : Nat) (hk : k < 40) (w : World) : Calls Tryd.prog 61 #[.int .i64 k] w fun e w' => e = .returned (.agg #[.string ⟨#[]⟩, .int .i64 (k + 2 : Nat), .int .i64 0, .int .u64 (375 * (k + 1) : Nat), .bool false, .int .i64 0]) ∧ Below w.heap.size w w' := by
  have g1 : IntKind.i64.wrap ((k : Int) + 2) = ((k + 2 : Nat) : Int) := by rw [IntWalk.i64_in _ (by omega)]; omega
  have g2 : IntKind.u64.wrap (k : Int) = (k : Int) := IntWalk.u64_in _ (by omega)
  have g3 : IntKind.u64.wrap ((k : Int) + 1) = ((k + 1 : Nat) : Int) := by rw [IntWalk.u64_in _ (by omega)]; omega
  have g4 : IntKind.u64.wrap (375 * ((k + 1 : Nat) : Int)) = ((375 * (k + 1) : Nat) : Int) := by rw [IntWalk.u64_in _ (by omega)]; omega
  go_enter Tryd.func61, Tryd.ntmps61
  go_wp2_with fail
  (try simp only [Exit.inBlock, Exit.then])
  refine bodyPost_ret (results_cell_row rfl _ _ w.heap.size 25 _ (0, 0) (.struct oiFs) rfl (heap_alloc_new w _) undOI rfl szOI) rfl ?_
  exact ⟨by simp, balloc (Below.refl _ _) _⟩
/-- The name of the family that an op belongs to (0: none, 1: PUSH, 2: DUP, 3: SWAP, 4: LOG), and its number there. -/
def fmK (n : Nat) : Nat := if 96 ≤ n ∧ n ≤ 127 then 1 else if 128 ≤ n ∧ n ≤ 143 then 2 else if 144 ≤ n ∧ n ≤ 159 then 3 else if 160 ≤ n ∧ n ≤ 164 then 4 else 0
def fmS (k : Nat) : ByteArray := if k = 1 then sPush else if k = 2 then sDup else if k = 3 then sSwap else if k = 4 then sLog else ⟨#[]⟩
def fmN (n : Nat) : Nat := if 96 ≤ n ∧ n ≤ 127 then n - 95 else if 128 ≤ n ∧ n ≤ 143 then n - 127 else if 144 ≤ n ∧ n ≤ 159 then n - 143 else if 160 ≤ n ∧ n ≤ 164 then n - 160 else 0
set_option maxRecDepth 100000 in
set_option maxHeartbeats 2000000 in
theorem family_any (n : Nat) (hn : n < 256) (w : World) : Calls Tryd.prog 29 #[.int .u8 n] w fun e w' => e = .returned (.tuple #[.string (fmS (fmK n)), .int .i64 (fmN n : Nat)]) ∧ w = w' := by
  by_cases c96 : 96 ≤ n ∧ n ≤ 127
  · have hN : fmN n = n - 95 := by unfold fmN; repeat (first | rw [if_pos (by omega)] | rw [if_neg (by omega)])
    have hK : fmK n = 1 := by unfold fmK; repeat (first | rw [if_pos (by omega)] | rw [if_neg (by omega)])
    rw [hK, hN]
    have p96 : (96 : Int) ≤ n := by omega
    have q96 : (n : Int) ≤ 127 := by omega
    have g0 : IntKind.u8.wrap ((n : Int) - 96) = ((n - 96 : Nat) : Int) := by rw [IntWalk.u8_in _ (by omega)]; omega
    have g1 : IntKind.i64.wrap ((n - 96 : Nat) : Int) = ((n - 96 : Nat) : Int) := IntWalk.i64_in _ (by omega)
    have g2 : IntKind.i64.wrap (((n - 96 : Nat) : Int) + 1) = ((n - 95 : Nat) : Int) := by rw [IntWalk.i64_in _ (by omega)]; omega
    clear hN hK c96 hn
    go_enter Tryd.func29, Tryd.ntmps29
    go_wp2_with fail
    go_ret2
    exact ⟨rfl, rfl⟩
  by_cases c128 : 128 ≤ n ∧ n ≤ 143
  · have hN : fmN n = n - 127 := by unfold fmN; repeat (first | rw [if_pos (by omega)] | rw [if_neg (by omega)])
    have hK : fmK n = 2 := by unfold fmK; repeat (first | rw [if_pos (by omega)] | rw [if_neg (by omega)])
    rw [hK, hN]
    have p96 : (96 : Int) ≤ n := by omega
    have q96 : ¬ (n : Int) ≤ 127 := by omega
    have p128 : (128 : Int) ≤ n := by omega
    have q128 : (n : Int) ≤ 143 := by omega
    have g0 : IntKind.u8.wrap ((n : Int) - 128) = ((n - 128 : Nat) : Int) := by rw [IntWalk.u8_in _ (by omega)]; omega
    have g1 : IntKind.i64.wrap ((n - 128 : Nat) : Int) = ((n - 128 : Nat) : Int) := IntWalk.i64_in _ (by omega)
    have g2 : IntKind.i64.wrap (((n - 128 : Nat) : Int) + 1) = ((n - 127 : Nat) : Int) := by rw [IntWalk.i64_in _ (by omega)]; omega
    clear hN hK c128 hn
    go_enter Tryd.func29, Tryd.ntmps29
    go_wp2_with fail
    go_ret2
    exact ⟨rfl, rfl⟩
  by_cases c144 : 144 ≤ n ∧ n ≤ 159
  · have hN : fmN n = n - 143 := by unfold fmN; repeat (first | rw [if_pos (by omega)] | rw [if_neg (by omega)])
    have hK : fmK n = 3 := by unfold fmK; repeat (first | rw [if_pos (by omega)] | rw [if_neg (by omega)])
    rw [hK, hN]
    have p96 : (96 : Int) ≤ n := by omega
    have q96 : ¬ (n : Int) ≤ 127 := by omega
    have p128 : (128 : Int) ≤ n := by omega
    have q128 : ¬ (n : Int) ≤ 143 := by omega
    have p144 : (144 : Int) ≤ n := by omega
    have q144 : (n : Int) ≤ 159 := by omega
    have g0 : IntKind.u8.wrap ((n : Int) - 144) = ((n - 144 : Nat) : Int) := by rw [IntWalk.u8_in _ (by omega)]; omega
    have g1 : IntKind.i64.wrap ((n - 144 : Nat) : Int) = ((n - 144 : Nat) : Int) := IntWalk.i64_in _ (by omega)
    have g2 : IntKind.i64.wrap (((n - 144 : Nat) : Int) + 1) = ((n - 143 : Nat) : Int) := by rw [IntWalk.i64_in _ (by omega)]; omega
    clear hN hK c144 hn
    go_enter Tryd.func29, Tryd.ntmps29
    go_wp2_with fail
    go_ret2
    exact ⟨rfl, rfl⟩
  by_cases c160 : 160 ≤ n ∧ n ≤ 164
  · have hN : fmN n = n - 160 := by unfold fmN; repeat (first | rw [if_pos (by omega)] | rw [if_neg (by omega)])
    have hK : fmK n = 4 := by unfold fmK; repeat (first | rw [if_pos (by omega)] | rw [if_neg (by omega)])
    rw [hK, hN]
    have p96 : (96 : Int) ≤ n := by omega
    have q96 : ¬ (n : Int) ≤ 127 := by omega
    have p128 : (128 : Int) ≤ n := by omega
    have q128 : ¬ (n : Int) ≤ 143 := by omega
    have p144 : (144 : Int) ≤ n := by omega
    have q144 : ¬ (n : Int) ≤ 159 := by omega
    have p160 : (160 : Int) ≤ n := by omega
    have q160 : (n : Int) ≤ 164 := by omega
    have g0 : IntKind.u8.wrap ((n : Int) - 160) = ((n - 160 : Nat) : Int) := by rw [IntWalk.u8_in _ (by omega)]; omega
    have g1 : IntKind.i64.wrap ((n - 160 : Nat) : Int) = ((n - 160 : Nat) : Int) := IntWalk.i64_in _ (by omega)
    clear hN hK c160 hn
    go_enter Tryd.func29, Tryd.ntmps29
    go_wp2_with fail
    go_ret2
    exact ⟨rfl, rfl⟩
  have hN : fmN n = 0 := by unfold fmN; repeat (first | rw [if_pos (by omega)] | rw [if_neg (by omega)])
  have hK : fmK n = 0 := by unfold fmK; repeat (first | rw [if_pos (by omega)] | rw [if_neg (by omega)])
  rw [hK, hN]
  clear hN hK
  go_enter Tryd.func29, Tryd.ntmps29
  go_wp2_with fail
  all_goals (first | (exfalso; omega) | (go_ret2; exact ⟨rfl, rfl⟩))
/-- How many bytes behind an op belong to it. -/
def szO (n : Nat) : Nat := if 96 ≤ n ∧ n ≤ 127 then n - 95 else 0
set_option maxRecDepth 100000 in
theorem size_any (n : Nat) (hn : n < 256) (w : World) : Calls Tryd.prog 65 #[.int .u8 n] w fun e w' => e = .returned (.int .i64 (szO n : Nat)) ∧ w = w' := by
  have HA := Lib.hid (family_any n hn)
  by_cases c : 96 ≤ n ∧ n ≤ 127
  · have hz : szO n = fmN n := by unfold szO fmN; rw [if_pos c, if_pos c]
    have hk : fmS (fmK n) = sPush := by unfold fmK; rw [if_pos c]; rfl
    rw [hz]
    rw [hk] at HA
    clear hz hk c hn
    generalize fmN n = N at HA ⊢
    go_enter Tryd.func65, Tryd.ntmps65
    go_wp2_with (first | (go_at_call 29; refine (HA.out _).mono ?_; rintro e w1 ⟨rfl, rfl⟩) | fail)
    go_ret
    exact ⟨rfl, rfl⟩
  · have hz : szO n = 0 := by unfold szO; rw [if_neg c]
    have hk : ((fmS (fmK n)).toList == [80, 85, 83, 72]) = false := by
      unfold fmK
      rw [if_neg c]
      by_cases c1 : 128 ≤ n ∧ n ≤ 143
      · rw [if_pos c1]; first | decide +kernel | kernel_rfl | simp [fmS]
      · rw [if_neg c1]
        by_cases c2 : 144 ≤ n ∧ n ≤ 159
        · rw [if_pos c2]; first | decide +kernel | kernel_rfl | simp [fmS]
        · rw [if_neg c2]
          by_cases c3 : 160 ≤ n ∧ n ≤ 164
          · rw [if_pos c3]; first | decide +kernel | kernel_rfl | simp [fmS]
          · rw [if_neg c3]; first | decide +kernel | kernel_rfl | simp [fmS]
    rw [hz]
    clear hz c hn
    generalize fmN n = N at HA ⊢
    generalize fmS (fmK n) = S at HA hk ⊢
    go_enter Tryd.func65, Tryd.ntmps65
    go_wp2_with (first | (go_at_call 29; refine (HA.out _).mono ?_; rintro e w1 ⟨rfl, rfl⟩) | fail)
    go_ret
    exact ⟨rfl, rfl⟩
end Go.Proofs.YtcdmaapjcckbmaaDoor
