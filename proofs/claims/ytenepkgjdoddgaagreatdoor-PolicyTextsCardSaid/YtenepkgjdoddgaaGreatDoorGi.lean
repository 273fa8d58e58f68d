/- label: Parse, the program's. -/
import Derived.Test.YtenepkgjdoddgaaGreatDoorGh
import Derived.Deep.RegionHeld3
import Derived.Lib.OthersKept
namespace Go.Proofs.YtenepkgjdoddgaaGreatDoor
open Go.RowKit Go.Shelf

set_option maxRecDepth 100000 in
set_option maxHeartbeats 1000000 in
theorem put_any (b S q p : Nat) (hS : S < 2 ^ 64) (hp : p < 64) (w : World) (hb : Blk w b 222 #[.int .u64 (S : Nat), .int .i64 (q : Nat)]) :
    Calls Tryz.prog 167 #[.pointer (some ⟨b, 0, none⟩), .int .i64 (p : Nat)] w fun e w' => e = .returned (.tuple #[]) ∧ Blk w' b 222 #[.int .u64 (S ||| 2 ^ p : Nat), .int .i64 (q : Nat)] ∧ w.grownBy w' (some b) := by
  have h2 : (2 : Nat) ^ p < 2 ^ 64 := Nat.pow_lt_pow_right (by omega) hp
  have g2 : bits .or .u64 (S : Int) ((2 : Int) ^ p) = ((S ||| 2 ^ p : Nat) : Int) := by
    rw [show ((2 : Int) ^ p) = ((2 ^ p : Nat) : Int) by rw [Int.natCast_pow]; rfl]
    exact or_nat S _ hS h2
  have g3 : IntKind.u64.wrap ((2 : Int) ^ p) = (2 : Int) ^ p := by
    have e2 : ((2 : Int) ^ p) = ((2 ^ p : Nat) : Int) := by rw [Int.natCast_pow]; rfl
    rw [e2]
    clear g2 e2
    generalize 2 ^ p = N at *
    exact IntWalk.u64_in _ (by omega)
  have G3 := Lib.hid g3
  clear g3
  have c0 := cell_of_row _ _ 0 _ _ _ hb
  have f0 := frozen_of_row _ _ 0 _ _ hb
  have HB := Lib.hid hb
  clear hb h2 hS
  go_enter Tryz.func167, Tryz.ntmps167
  go_wp2
  go_region
  go_end0
  have e : bits .or .u64 (S : Int) (IntKind.u64.wrap ((2 : Int) ^ p)) = ((S ||| 2 ^ p : Nat) : Int) := by rw [G3.out, g2]
  rw [e]
  exact ⟨rfl, heap_setCell_same w b 0 _ _ _ HB.out, grown_drew (grown_set' (grown_refl w b) 0 _)⟩

theorem put_drew (b S q p : Nat) (hS : S < 2 ^ 64) (hp : p < 64) (w : World) (hb : Blk w b 222 #[.int .u64 (S : Nat), .int .i64 (q : Nat)]) :
    Calls Tryz.prog 167 #[.pointer (some ⟨b, 0, none⟩), .int .i64 (p : Nat)] w.drew fun e w' => e = .returned (.tuple #[]) ∧ Blk w' b 222 #[.int .u64 (S ||| 2 ^ p : Nat), .int .i64 (q : Nat)] ∧ w.grownBy w' (some b) :=
  (put_any b S q p hS hp w.drew hb.drew').mono fun _ _ ⟨h1, h2, h3⟩ => ⟨h1, h2, ⟨h3.os, h3.tape, h3.output, h3.size, h3.block⟩⟩
/-- One step of the reading. -/
theorem take_comma (b S p : Nat) (hS : S < 2 ^ 64) (hp : p < 64) (w : World) (hb : Blk w b 222 #[.int .u64 (S : Nat), .int .i64 (p : Nat)]) :
    Calls Tryz.prog 166 #[.pointer (some ⟨b, 0, none⟩), .int .i32 44] w fun e w' => e = .returned (.bool true) ∧ Blk w' b 222 #[.int .u64 (S ||| 2 ^ p : Nat), .int .i64 0] ∧ w.grownBy w' (some b) := by
  have c1 := cell_of_row _ _ 1 _ _ _ hb
  have HB := Lib.hid hb
  have HP := Lib.hid (And.intro hS hp)
  clear hb hS hp
  go_enter Tryz.func166, Tryz.ntmps166
  go_wp2_with fail
  go_region_with ((go_at_call 167; refine (put_drew b S p p HP.out.1 HP.out.2 _ HB.out).mono ?_; rintro e w1 ⟨rfl, hb1, hg1⟩))
  have d1 := cell_of_row _ _ 1 _ _ _ hb1
  have e1 := frozen_of_row _ _ 1 _ _ hb1
  have HY := Lib.hid (And.intro hb1 hg1)
  clear hb1 hg1 c1
  go_wp2_with fail
  go_ret
  exact ⟨rfl, heap_setCell_same w1 b 1 _ _ _ HY.out.1, grown_set' HY.out.2 1 _⟩
theorem take_digit (b S p c n : Nat) (hp : p < 64) (h1 : 48 ≤ c) (h2 : c ≤ 57) (hn : p * 10 + (c - 48) = n) (w : World) (hb : Blk w b 222 #[.int .u64 (S : Nat), .int .i64 (p : Nat)]) :
    Calls Tryz.prog 166 #[.pointer (some ⟨b, 0, none⟩), .int .i32 (c : Nat)] w fun e w' => e = .returned (.bool (decide (n < 64))) ∧ Blk w' b 222 #[.int .u64 (S : Nat), .int .i64 (n : Nat)] ∧ w.grownBy w' (some b) := by
  have c1 := cell_of_row _ _ 1 _ _ _ hb
  have f1 := frozen_of_row _ _ 1 _ _ hb
  have q0 : ((c : Int) == 44) = false := by rw [beq_eq_false_iff_ne]; omega
  have g1 : IntKind.i64.wrap ((p : Int) * 10) = (p : Int) * 10 := IntWalk.i64_in _ (by omega)
  have g2 : IntKind.i32.wrap ((c : Int) - 48) = (c : Int) - 48 := IntWalk.i32_in _ (by omega)
  have g3 : IntKind.i64.wrap ((c : Int) - 48) = (c : Int) - 48 := IntWalk.i64_in _ (by omega)
  have g4 : IntKind.i64.wrap ((p : Int) * 10 + ((c : Int) - 48)) = (p : Int) * 10 + ((c : Int) - 48) := IntWalk.i64_in _ (by omega)
  have h1i : (48 : Int) ≤ (c : Int) := by omega
  have h2i : (c : Int) ≤ 57 := by omega
  have HN := Lib.hid (show (p : Int) * 10 + ((c : Int) - 48) = (n : Int) by omega)
  have HB := Lib.hid hb
  clear hb hn
  go_enter Tryz.func166, Tryz.ntmps166
  go_wp2_with fail
  go_ret
  rw [HN.out]
  exact ⟨by rw [show decide ((n : Int) < 64) = decide (n < 64) by rw [decide_eq_decide]; omega]; rfl, heap_setCell_same w b 1 _ _ _ HB.out, grown_set' (grown_refl w b) 1 _⟩
theorem take_other (b c : Nat) (S p : Int) (h : c ≠ 44 ∧ (c < 48 ∨ 57 < c)) (w : World) (hb : Blk w b 222 #[.int .u64 S, .int .i64 p]) :
    Calls Tryz.prog 166 #[.pointer (some ⟨b, 0, none⟩), .int .i32 (c : Nat)] w fun e w' => e = .returned (.bool false) ∧ Blk w' b 222 #[.int .u64 S, .int .i64 p] ∧ w.grownBy w' (some b) := by
  have q0 : ((c : Int) == 44) = false := by rw [beq_eq_false_iff_ne]; omega
  have HB := Lib.hid hb
  clear hb
  rcases h.2 with h1 | h1
  · have h2 : ¬ (48 : Int) ≤ (c : Int) := by omega
    clear h
    go_enter Tryz.func166, Tryz.ntmps166
    go_wp2_with fail
    go_ret
    exact ⟨rfl, HB.out, grown_refl w b⟩
  · have h2 : (48 : Int) ≤ (c : Int) := by omega
    have h3 : ¬ (c : Int) ≤ 57 := by omega
    clear h
    go_enter Tryz.func166, Tryz.ntmps166
    go_wp2_with fail
    go_ret
    exact ⟨rfl, HB.out, grown_refl w b⟩

theorem scP_split (l : List UInt8) (k : Nat) (h : scP (l.take k) = none) : scP l = none := by
  unfold scP at *
  conv => lhs; rw [← List.take_append_drop k l]
  rw [List.foldl_append, h, stp_none]
theorem scP_next (s : ByteArray) (k S p : Nat) (hk : k < s.size) (h : scP (s.data.toList.take k) = some (S, p)) : scP (s.data.toList.take (k + 1)) = stp (some (S, p)) s[k] := by
  rw [List.take_add_one, List.getElem?_eq_getElem (by simpa using hk)]
  show scP (_ ++ [_]) = _
  rw [scP_snoc, h]
  rfl
theorem pos_iter {w : World} {b : Nat} {s : ByteArray} {k : Nat} (h : w.heap[b]? = some (.stringIter s k)) : w.iterPos b = k := by simp [World.iterPos, h]
/-- Where Parse jumps to what is no text. -/
def LPJ (R : Prop) (B : Nat) (w0 : World) (a : Act) (w : World) : Prop := ∃ x0 x1 x2 x3 x4 x5 x6 x7 x8 x9 x10 x11 x12 x13 x14 x15 x16 x17 x18 x19 x20 x21 x22 x23 x24 x25 x26 x27 : Value, a = { tmps := #[x0, x1, x2, x3, x4, x5, x6, x7, x8, x9, x10, x11, x12, x13, x14, x15, x16, x17, x18, x19, x20, x21, x22, x23, x24, x25, x26, x27], defers := [] } ∧ Below B w0 w ∧ R

set_option maxRecDepth 100000 in
set_option maxHeartbeats 2000000 in
theorem parse_any (s : ByteArray) (hs : s.size ≤ 400) (w : World) (hT : TZ w) :
    Calls Tryz.prog 157 #[.string s] w fun e w' => e = .returned (.tuple #[.int .u64 (labV s.data.toList : Nat), .int .i64 (labE s.data.toList : Nat)]) ∧ Below w.heap.size w w' := by
  by_cases h45 : s.data.toList = [45]
  · obtain rfl : s = ⟨#[45]⟩ := by cases s with | mk d => cases d with | mk l => simp at h45; subst h45; rfl
    obtain ⟨e1, e2⟩ := lab_of (a := 0) (l := [45]) (by decide) txL_zero
    rw [show (ByteArray.mk #[45]).data.toList = [45] from rfl, e1, e2]
    clear e1 e2 h45 hs hT
    go_enter Tryz.func157, Tryz.ntmps157
    go_wp2_with fail
    refine wp_scope_straight ?_
    go_wp2_with fail
    rw [Exit.noGoto_ret]
    go_ret2
    exact ⟨rfl, balloc (Below.refl _ _) _⟩
  · have hne : (s.toList == [45]) = false := by rw [beq_eq_false_iff_ne, ByteArray.toList_eq]; exact h45
    have HE := Lib.hid h45
    have HT := Lib.hid hT
    clear h45 hT
    go_enter Tryz.func157, Tryz.ntmps157
    go_wp2_with fail
    refine wp_scope_jumps 0 (LPJ (labV s.data.toList = 0 ∧ labE s.data.toList = 180) w.heap.size w) (fun _ _ => 0) rfl ?first ?pass
    case first =>
      go_wp2_with fail
      clear hne
      go_loopw [] (fun wr => ∃ k S p : Nat, k ≤ s.size ∧ scP (s.data.toList.take k) = some (S, p) ∧ wr.heap[w.heap.size + 1]? = some (.stringIter s k) ∧ Blk wr w.heap.size 222 #[.int .u64 (S : Nat), .int .i64 (p : Nat)] ∧ Below w.heap.size w wr) (fun wr => s.size - wr.iterPos (w.heap.size + 1))
      case atStart =>
        refine ⟨0, 0, 0, by omega, rfl, ?_, (Blk.new w _ _).alloc _, balloc (balloc (Below.refl _ _) _) _⟩
        have := World.iter_heap (w.alloc (.cells #[.int .u64 0, .int .i64 0] 222)) s 0
        simpa using this
      case round =>
        obtain ⟨k, S, p, hk, hsc, hit, hb, hB⟩ := hrel
        have hil : w.heap.size + 1 < wr.heap.size := (Array.getElem?_eq_some_iff.1 hit).1
        have hbd := stp_bound hsc
        by_cases hlt : k < s.size
        · have hnx : ∀ ty, (Instr.next (.pointer (some ⟨w.heap.size + 1, 0, none⟩)) true ty).run Tryz.prog wr = _ := fun ty => Lib.run_next_any_at wr (w.heap.size + 1) s k ty hit hlt
          have hb2 : Blk (wr.iterAt (w.heap.size + 1) s (k + (Utf8.decode s k).2)) w.heap.size 222 #[.int .u64 (S : Nat), .int .i64 (p : Nat)] := (Lib.iterAt_other wr _ _ s _ (by omega)).trans hb
          have hit2 := Lib.iterAt_heap wr (w.heap.size + 1) s k (k + (Utf8.decode s k).2) hit
          have hB2 := Lib.below_iterAt hB (k := w.heap.size + 1) (by omega) s (k + (Utf8.decode s k).2)
          have hd1 := decode_le s k
          have hnext := scP_next s k S p hlt hsc
          have hdec : (s[k].toNat < 128 ∧ Utf8.decode s k = (s[k].toNat, 1)) ∨ (128 ≤ s[k].toNat ∧ 128 ≤ (Utf8.decode s k).1) := by
            by_cases h : s[k].toNat < 128
            · exact .inl ⟨h, decode_ascii s k hlt h⟩
            · exact .inr ⟨by omega, (decode_high s k hlt (by omega)).1⟩
          have HIT := Lib.hid hit
          clear hsc hb hB hit
          obtain ⟨c, hc⟩ : ∃ c, s[k] = c := ⟨_, rfl⟩
          rw [hc] at hnext hdec
          clear hc
          obtain ⟨r, hr⟩ : ∃ r, (Utf8.decode s k).1 = r := ⟨_, rfl⟩
          obtain ⟨d, hd⟩ : ∃ d, (Utf8.decode s k).2 = d := ⟨_, rfl⟩
          rw [hr] at hd1
          rw [hd] at hb2 hit2 hB2
          simp only [hr, hd] at hnx
          have hdec2 : (c.toNat < 128 ∧ r = c.toNat ∧ d = 1) ∨ (128 ≤ c.toNat ∧ 128 ≤ r) := by
            rcases hdec with ⟨h1, h2⟩ | ⟨h1, h2⟩
            · exact .inl ⟨h1, by rw [← hr, h2], by rw [← hd, h2]⟩
            · exact .inr ⟨h1, by rw [← hr]; exact h2⟩
          clear hdec hr hd
          obtain ⟨W1, hW1⟩ : ∃ W1, wr.iterAt (w.heap.size + 1) s (k + d) = W1 := ⟨_, rfl⟩
          rw [hW1] at hb2 hit2 hB2 hnx
          clear hW1
          have HX := Lib.hid (And.intro hb2 (And.intro hit2 (And.intro hB2 (And.intro hil hbd))))
          have HNX := Lib.hid hnext
          clear hb2 hit2 hB2 hil hbd hnext
          have hcase : (r = 44 ∧ c = 44 ∧ d = 1) ∨ (∃ n, 48 ≤ r ∧ r ≤ 57 ∧ p * 10 + (r - 48) = n ∧ stp (some (S, p)) c = (if n < 64 then some (S, n) else none) ∧ d = 1) ∨ ((r ≠ 44 ∧ (r < 48 ∨ 57 < r)) ∧ stp (some (S, p)) c = none) := by
            have hcn : c = 44 ↔ c.toNat = 44 := ⟨fun h => by rw [h]; rfl, fun h => UInt8.toNat_inj.1 (by rw [h]; rfl)⟩
            rcases hdec2 with ⟨h1, rfl, rfl⟩ | ⟨h1, h2⟩
            · by_cases h44 : c.toNat = 44
              · exact .inl ⟨h44, hcn.2 h44, rfl⟩
              · by_cases hdg : 48 ≤ c.toNat ∧ c.toNat ≤ 57
                · refine .inr (.inl ⟨_, hdg.1, hdg.2, rfl, ?_, rfl⟩)
                  simp only [stp]
                  rw [if_neg (fun h => h44 (hcn.1 h)), if_pos hdg]
                · refine .inr (.inr ⟨⟨h44, by omega⟩, ?_⟩)
                  simp only [stp]
                  rw [if_neg (fun h => h44 (hcn.1 h)), if_neg hdg]
            · refine .inr (.inr ⟨⟨by omega, by omega⟩, ?_⟩)
              simp only [stp]
              rw [if_neg (fun h => by have := hcn.1 h; omega), if_neg (by omega)]
          clear hdec2
          have fin : scP s.data.toList = none → labV s.data.toList = 0 ∧ labE s.data.toList = 180 := fun h => lab_scan_none HE.out h
          have FIN := Lib.hid fin
          clear fin
          rcases hcase with ⟨rfl, rfl, rfl⟩ | ⟨n, h1, h2, hn, hst, rfl⟩ | ⟨ho, hst⟩
          · go_wp2_with fail
            refine (take_comma w.heap.size S p HX.out.2.2.2.2.1 HX.out.2.2.2.2.2 _ HX.out.1).mono ?_
            rintro e X ⟨rfl, hb3, hg3⟩
            have HY := Lib.hid (And.intro hb3 hg3)
            clear hb3 hg3 hnx
            go_wp2_with fail
            have hit3 : X.heap[w.heap.size + 1]? = some (.stringIter s (k + 1)) := (HY.out.2.block _ (Array.getElem?_eq_some_iff.1 HX.out.2.1).1 (by simp)).trans HX.out.2.1
            go_roundw
            case rel => exact ⟨k + 1, S ||| 2 ^ p, 0, by omega, by rw [HNX.out]; rfl, hit3, HY.out.1, HX.out.2.2.1.grown HY.out.2 (HX.out.2.2.1.size) (fun j e => by cases e; omega)⟩
            case measure => rw [pos_iter hit3, pos_iter HIT.out]; omega
          · have HST := Lib.hid hst
            have hp := HX.out.2.2.2.2.2
            clear hst
            by_cases hn64 : n < 64
            · have hdn : decide (n < 64) = true := by simpa using hn64
              have HTK := Lib.hid (take_digit w.heap.size S p r n hp h1 h2 hn _ HX.out.1)
              rw [hdn] at HTK
              clear hn hp hdn
              go_wp2_with fail
              refine (HTK.out).mono ?_
              rintro e X ⟨rfl, hb3, hg3⟩
              have HY := Lib.hid (And.intro hb3 hg3)
              clear hb3 hg3 hnx
              go_wp2_with fail
              have hit3 : X.heap[w.heap.size + 1]? = some (.stringIter s (k + 1)) := (HY.out.2.block _ (Array.getElem?_eq_some_iff.1 HX.out.2.1).1 (by simp)).trans HX.out.2.1
              go_roundw
              case rel => exact ⟨k + 1, S, n, by omega, by rw [HNX.out, HST.out, if_pos hn64], hit3, HY.out.1, HX.out.2.2.1.grown HY.out.2 (HX.out.2.2.1.size) (fun j e => by cases e; omega)⟩
              case measure => rw [pos_iter hit3, pos_iter HIT.out]; omega
            · have hdn : decide (n < 64) = false := by simpa using hn64
              have HTK := Lib.hid (take_digit w.heap.size S p r n hp h1 h2 hn _ HX.out.1)
              rw [hdn] at HTK
              clear hn hp hdn
              go_wp2_with fail
              refine (HTK.out).mono ?_
              rintro e X ⟨rfl, hb3, hg3⟩
              have HZ := Lib.hid (And.intro (HX.out.2.2.1.grown hg3 (HX.out.2.2.1.size) (fun j e => by cases e; omega)) (FIN.out (scP_split _ (k + 1) (by rw [HNX.out, HST.out, if_neg hn64]))))
              clear hb3 hg3 hnx
              go_wp2_with fail
              go_step3
              exact ⟨rfl, _, _, _, _, _, _, _, _, _, _, _, _, _, _, _, _, _, _, _, _, _, _, _, _, _, _, _, _, rfl, HZ.out⟩
          · have HST := Lib.hid hst
            have HTK := Lib.hid (take_other w.heap.size r (S : Nat) (p : Nat) ho _ HX.out.1)
            clear hst ho
            go_wp2_with fail
            refine (HTK.out).mono ?_
            rintro e X ⟨rfl, hb3, hg3⟩
            have HZ := Lib.hid (And.intro (HX.out.2.2.1.grown hg3 (HX.out.2.2.1.size) (fun j e => by cases e; omega)) (FIN.out (scP_split _ (k + 1) (by rw [HNX.out, HST.out]))))
            clear hb3 hg3 hnx
            go_wp2_with fail
            go_step3
            exact ⟨rfl, _, _, _, _, _, _, _, _, _, _, _, _, _, _, _, _, _, _, _, _, _, _, _, _, _, _, _, _, rfl, HZ.out⟩
        · have hnx : ∀ ty, (Instr.next (.pointer (some ⟨w.heap.size + 1, 0, none⟩)) true ty).run Tryz.prog wr = _ := fun ty => Lib.run_next_end_at wr (w.heap.size + 1) s k ty hit hlt
          obtain rfl : k = s.size := by omega
          rw [List.take_of_length_le (by simp)] at hsc
          have c1 := cell_of_row _ _ 1 _ _ _ hb
          have HX := Lib.hid (And.intro hb (And.intro hsc (And.intro hbd hB)))
          clear hb hsc hbd hB hit hlt hk hil
          go_wp2_with fail
          refine (put_any w.heap.size S p p HX.out.2.2.1.1 HX.out.2.2.1.2 _ HX.out.1).mono ?_
          rintro e X ⟨rfl, hb3, hg3⟩
          have d0 := cell_of_row _ _ 0 _ _ _ hb3
          have hB3 := HX.out.2.2.2.grown hg3 (HX.out.2.2.2.size) (fun j e => by cases e; omega)
          have hlt3 := or_bound HX.out.2.2.1
          have HTX := Lib.hid (ltext_any (S ||| 2 ^ p) hlt3 X (HT.out.keep hB3))
          have HY := Lib.hid (And.intro hb3 (And.intro hB3 hlt3))
          clear hb3 hB3 hg3 hnx hlt3 c1
          go_wp2_with fail
          refine (HTX.out).mono ?_
          rintro e Y ⟨rfl, h4⟩
          have d4 := cell_of_row _ _ 0 _ _ _ (HY.out.1.keep h4)
          have HZ := Lib.hid (bstep HY.out.2.1 h4)
          clear h4 d0
          have ho := or_pos S p
          have HO := Lib.hid (fun he : txL (S ||| 2 ^ p) ≠ s.data.toList => lab_scan_other HX.out.2.1 he)
          generalize S ||| 2 ^ p = T at *
          by_cases he : txL T = s.data.toList
          · obtain ⟨e1, e2⟩ := lab_of HY.out.2.2 he
            have HS := Lib.hid (And.intro e1 e2)
            have hq : (txL T == s.toList) = true := by rw [beq_iff_eq, ByteArray.toList_eq, ← he]
            clear e1 e2 he
            go_wp2_with fail
            exact bodyPost_ret (R := fun e w' => e = .returned (.tuple #[.int .u64 (labV s.data.toList : Nat), .int .i64 (labE s.data.toList : Nat)]) ∧ Below w.heap.size w w') (v := .tuple #[.int .u64 (T : Nat), .int .i64 0]) (by simp [results, Tryz.results157, go_sem]) rfl ⟨by rw [HS.out.1, HS.out.2]; rfl, HZ.out⟩
          · have hq : (txL T == s.toList) = false := by rw [beq_eq_false_iff_ne, ByteArray.toList_eq]; exact he
            have HS := Lib.hid (HO.out he)
            clear he
            go_wp2_with fail
            refine wp_label ?_
            go_wp2_with fail
            exact bodyPost_ret (R := fun e w' => e = .returned (.tuple #[.int .u64 (labV s.data.toList : Nat), .int .i64 (labE s.data.toList : Nat)]) ∧ Below w.heap.size w w') (v := .tuple #[.int .u64 0, .int .i64 180]) (by simp [results, Tryz.results157, go_sem]) rfl ⟨by rw [HS.out.1, HS.out.2]; rfl, HZ.out⟩
    case pass =>
      rintro a X ⟨x0, x1, x2, x3, x4, x5, x6, x7, x8, x9, x10, x11, x12, x13, x14, x15, x16, x17, x18, x19, x20, x21, x22, x23, x24, x25, x26, x27, rfl, hB, h0, h180⟩
      have HS := Lib.hid (And.intro h0 (And.intro h180 hB))
      clear h0 h180 hB hne
      go_wp2_with fail
      exact bodyPost_ret (R := fun e w' => e = .returned (.tuple #[.int .u64 (labV s.data.toList : Nat), .int .i64 (labE s.data.toList : Nat)]) ∧ Below w.heap.size w w') (v := .tuple #[.int .u64 0, .int .i64 180]) (by simp [results, Tryz.results157, go_sem]) rfl ⟨by rw [HS.out.1, HS.out.2.1]; rfl, HS.out.2.2⟩
end Go.Proofs.YtenepkgjdoddgaaGreatDoor
