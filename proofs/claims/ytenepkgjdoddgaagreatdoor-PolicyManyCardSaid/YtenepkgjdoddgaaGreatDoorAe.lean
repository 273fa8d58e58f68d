/- policy's laws: the reader's first line; the map of ways. -/
import Derived.Test.YtenepkgjdoddgaaGreatDoorAd
import Derived.MapKept
namespace Go.Proofs.YtenepkgjdoddgaaGreatDoor
open Go.RowKit Go.Shelf

set_option maxRecDepth 100000 in
set_option maxHeartbeats 2000000 in
theorem default_ok (R b k l : Nat) (cs : List ByteArray) (u : ByteArray) (v : Value) (df : Int) (vc vr : Value) (w : World) (hR : Rd w R v 0 df vc vr) (hb : Wd w b cs k v)
    (hk : cs[k]? = some u) (hu : u.size ≤ 400) (he : labE u.data.toList = 0) (hlab : labV u.data.toList = l) (hTS : ∀ w', w.grownBy w' (some R) → TZ w') :
    Calls Tryz.prog 119 #[.pointer (some ⟨R, 0, none⟩)] w fun e w' => e = .returned (.tuple #[]) ∧ ∃ v', Rd w' R v' 0 (l : Nat) vc vr ∧ Wd w' b cs (k + 1) v' ∧ w.grownBy w' (some R) := by
  have c1 : w.cell? ⟨R, 1, none⟩ = some (.int .i64 0) := cell_of_row w R 1 _ _ _ hR
  have HL := Lib.hid (label_ok R b k cs u v 0 df vc vr w hR hb hk hu hTS he)
  rw [hlab] at HL
  clear hR hb hk hu he hlab hTS
  go_enter Tryz.func119, Tryz.ntmps119
  go_wp2_with (first
    | (go_at_call 92; refine (need_b _ rfl _).mono ?_; rintro e w' ⟨rfl, rfl⟩)
    | (go_at_call 141; refine (HL.out).mono ?_; rintro e w1 ⟨rfl, v', hR, hb, hg⟩; have c2 : w1.cell? ⟨R, 2, none⟩ = some (.int .u64 df) := cell_of_row w1 R 2 _ _ _ hR; have f2 := frozen_of_row w1 R 2 _ _ hR; have H1 := Lib.hid (And.intro hR (And.intro hb hg)); clear hR hb hg)
    | fail)
  go_end0
  obtain ⟨hR, hb, hg⟩ := H1.out
  have hG := grown_set' (grown_refl w1 R) 2 (.int .u64 (l : Nat))
  exact ⟨rfl, v', heap_setCell_same w1 R 2 _ _ _ hR, Wd.kept hb hG (fun e => (hR.ne hb) (Option.some.inj e).symm), grown_both hg hG⟩

theorem undMW : Tryz.prog.underlying 142 = some (.map 9 146) := by kernel_rfl
theorem undKS : Tryz.prog.underlying 9 = some .string := by kernel_rfl
theorem mk_mapW (w : World) : (Instr.makeMap 142 none).run Tryz.prog w = .ok (.map (some w.heap.size)) (w.alloc (.map #[] 0)) := by kernel_rfl
theorem check_str (e : Bool) (s : ByteArray) (w : World) : (Instr.checkKey e 10000 9 (.string s)).run Tryz.prog w = .ok () w := by
  rw [show (10000 : Nat) = 9999 + 1 from rfl]
  unfold Instr.checkKey
  simp [run_underlying undKS]
theorem find_str (s : ByteArray) (es : List MapEntry) (r : Option (Nat × Value)) (h : Instr.findNow .string (.string s) es 0 = some r) (w : World) : (Instr.findKey 9 (.string s) es).run Tryz.prog w = .ok r w := by
  unfold Instr.findKey
  simp [run_underlying undKS, h]
theorem gob_mapW {P : Program} {w : World} {r : Nat} {es : Array MapEntry} {clock : Nat} (hb : w.heap[r]? = some (.map es clock)) : (getObj r).run P w = .ok (.map es clock) w := by simp [getObj, Sem.run, hb]
theorem sob_mapW {P : Program} {w : World} {r : Nat} {es : Array MapEntry} {clock : Nat} (o : Obj) (hb : w.heap[r]? = some (.map es clock)) : (setObj r o).run P w = .ok () (w.putObj r o) := by simp [setObj, Sem.run, hb, World.putObj]
theorem ins_str (b : Nat) (es : Array MapEntry) (c : Nat) (k : ByteArray) (f : Value) (w : World) (hb : w.heap[b]? = some (.map es c)) (hno : Instr.findNow .string (.string k) es.toList 0 = some none) :
    (Instr.mapUpdate 142 (.map (some b)) (.string k) f).run Tryz.prog w = .ok () (w.putObj b (.map (es.push { key := .string k, val := f, born := c }) (c + 1))) := by
  unfold Instr.mapUpdate
  simp [run_underlying undMW, gob_mapW hb, check_str, find_str k _ _ hno, sob_mapW _ hb]
theorem look_str (b : Nat) (es : Array MapEntry) (c : Nat) (k : ByteArray) (i : Nat) (v : Value) (w : World) (hb : w.heap[b]? = some (.map es c)) (hat : Instr.findNow .string (.string k) es.toList 0 = some (some (i, v))) :
    (Instr.lookup 142 (.map (some b)) (.string k) false).run Tryz.prog w = .ok v w := by
  unfold Instr.lookup
  simp [run_underlying undMW, gob_mapW hb, check_str, find_str k _ _ hat]
abbrev sDef : ByteArray := ⟨#[100, 101, 102, 97, 117, 108, 116]⟩
abbrev sClr : ByteArray := ⟨#[99, 108, 101, 97, 114]⟩
abbrev sRel : ByteArray := ⟨#[114, 101, 108, 101, 97, 115, 101]⟩
/-- The map of ways. -/
def wES : Array MapEntry := #[{ key := .string sDef, val := .func (.func 119) #[] #[], born := 0 }, { key := .string sClr, val := .func (.func 120) #[] #[], born := 1 }, { key := .string sRel, val := .func (.func 121) #[] #[], born := 2 }]
def WM (w : World) (b : Nat) : Prop := w.heap[b]? = some (.map wES 3)
theorem WM.kept {X Y : World} {b : Nat} {row : Option Nat} (h : WM X b) (hg : X.grownBy Y row) (hr : row ≠ some b) : WM Y b := (hg.block b (Array.getElem?_eq_some_iff.1 h).1 (fun e => hr e.symm)).trans h
theorem find_def : Instr.findNow .string (.string sDef) wES.toList 0 = some (some (0, .func (.func 119) #[] #[])) := by kernel_rfl
theorem find_clr : Instr.findNow .string (.string sClr) wES.toList 0 = some (some (1, .func (.func 120) #[] #[])) := by kernel_rfl
theorem find_rel : Instr.findNow .string (.string sRel) wES.toList 0 = some (some (2, .func (.func 121) #[] #[])) := by kernel_rfl
set_option maxRecDepth 100000 in
set_option maxHeartbeats 2000000 in
theorem ways_any (w : World) :
    Calls Tryz.prog 90 #[] w fun e w' => e = .returned (.map (some w.heap.size)) ∧ WM w' w.heap.size ∧ Below w.heap.size w w' := by
  have i0 := ins_str w.heap.size #[] 0 sDef (.func (.func 119) #[] #[]) (w.alloc (.map #[] 0)) (World.alloc_heap_new w _) rfl
  obtain ⟨w1, hw1⟩ : ∃ w1, (w.alloc (.map #[] 0)).putObj w.heap.size (.map (#[].push { key := .string sDef, val := .func (.func 119) #[] #[], born := 0 }) (0 + 1)) = w1 := ⟨_, rfl⟩
  have h1 : w1.heap[w.heap.size]? = some (.map (#[].push { key := .string sDef, val := .func (.func 119) #[] #[], born := 0 }) (0 + 1)) := by rw [← hw1]; exact World.putObj_heap_same (by simp)
  have b1 : Below w.heap.size w w1 := by rw [← hw1]; exact ((Below.refl _ w).alloc (Nat.le_refl _) _).trans (below_put _ _ (Nat.le_refl _))
  rw [hw1] at i0
  have i1 := ins_str w.heap.size _ _ sClr (.func (.func 120) #[] #[]) w1 h1 (by kernel_rfl)
  obtain ⟨w2, hw2⟩ : ∃ w2, w1.putObj w.heap.size (.map ((#[].push { key := .string sDef, val := .func (.func 119) #[] #[], born := 0 }).push { key := .string sClr, val := .func (.func 120) #[] #[], born := 0 + 1 }) (0 + 1 + 1)) = w2 := ⟨_, rfl⟩
  have hl1 := (Array.getElem?_eq_some_iff.1 h1).1
  have h2 : w2.heap[w.heap.size]? = some (.map ((#[].push { key := .string sDef, val := .func (.func 119) #[] #[], born := 0 }).push { key := .string sClr, val := .func (.func 120) #[] #[], born := 0 + 1 }) (0 + 1 + 1)) := by rw [← hw2]; exact World.putObj_heap_same hl1
  have b2 : Below w.heap.size w w2 := by rw [← hw2]; exact b1.trans (below_put _ _ (Nat.le_refl _))
  rw [hw2] at i1
  have i2 := ins_str w.heap.size _ _ sRel (.func (.func 121) #[] #[]) w2 h2 (by kernel_rfl)
  obtain ⟨w3, hw3⟩ : ∃ w3, w2.putObj w.heap.size (.map (((#[].push { key := .string sDef, val := .func (.func 119) #[] #[], born := 0 }).push { key := .string sClr, val := .func (.func 120) #[] #[], born := 0 + 1 }).push { key := .string sRel, val := .func (.func 121) #[] #[], born := 0 + 1 + 1 }) (0 + 1 + 1 + 1)) = w3 := ⟨_, rfl⟩
  have h3 : WM w3 w.heap.size := by rw [← hw3]; exact World.putObj_heap_same (Array.getElem?_eq_some_iff.1 h2).1
  have b3 : Below w.heap.size w w3 := by rw [← hw3]; exact b2.trans (below_put _ _ (Nat.le_refl _))
  rw [hw3] at i2
  have hmm := mk_mapW w
  have HF := Lib.hid (And.intro h3 b3)
  clear hw1 hw2 hw3 h1 h2 h3 b1 b2 b3 hl1
  go_enter Tryz.func90, Tryz.ntmps90
  go_wp2_with fail
  go_ret
  exact ⟨rfl, HF.out⟩
end Go.Proofs.YtenepkgjdoddgaaGreatDoor
