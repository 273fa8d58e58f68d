/- policy's laws: Text. -/
import Derived.Test.YtenepkgjdoddgaaGreatDoorPk
import Derived.Test.YtenepkgjdoddgaaGreatDoorPg
import Derived.Test.YtenepkgjdoddgaaGreatDoorPh
import Derived.Test.YtenepkgjdoddgaaGreatDoorGg
namespace Go.Proofs.YtenepkgjdoddgaaGreatDoor
open Go.RowKit Go.Shelf

theorem Bu.below {b B2 : Nat} {l : List UInt8} {X Y : World} (h : Bu b B2 l X) (k : Below X.heap.size X Y) : Bu b B2 l Y := h.kept (grown_new k) (fun _ e => by cases e)
theorem KpB.below {b B2 : Nat} {X Y Z : World} (h : KpB b B2 X Y) (k : Below Y.heap.size Y Z) (hb : b ≤ Y.heap.size) : KpB b B2 X Z :=
  ⟨h.1.trans (k.mono hb), fun i _ _ h3 => (k.block i (Nat.lt_of_lt_of_le h3 h.1.size)).trans (h.2 i ‹_› ‹_› h3)⟩
theorem str_list (l : List UInt8) : (ByteArray.mk l.toArray).data.toList = l := rfl
theorem str_size (l : List UInt8) : (ByteArray.mk l.toArray).size = l.length := by simp [ByteArray.size]

/-- WriteString, and that what is no row of bytes stays. -/
theorem cc_keeps (b B2 : Nat) (l : List UInt8) (w : World) (h : Bu b B2 l w) :
    Calls Tryz.prog 79 #[.pointer (some ⟨b, 0, none⟩)] w fun e w' => e = .returned (.tuple #[]) ∧ Bw b B2 l w' ∧ KpB b B2 w w' ∧ ∀ k, k ≠ b → w'.heap[k]? = w.heap[k]? := by
  obtain ⟨p, v, h1, h2, h3⟩ := h
  rcases h2 with rfl | rfl
  · refine (cc_fresh b v w h1).mono ?_
    rintro e w' ⟨rfl, rfl⟩
    refine ⟨rfl, ⟨v, ?_, ?_⟩, (KpB.refl _ _ _).set 0 _, fun k hk => Below.heap_setCell _ ⟨b, 0, none⟩ _ k hk⟩
    · simp [World.setCell, Array.getElem?_modify, h1]
    · exact h3.kept (row := some b) (grown_set' (grown_refl w b) 0 _) (.inr (own_ne h3 h1))
  · refine (cc_used b w (by rw [Lib.cell_of_heap h1]; rfl)).mono ?_
    rintro e w' ⟨rfl, rfl⟩
    exact ⟨rfl, ⟨v, h1, h3⟩, KpB.refl _ _ _, fun _ _ => rfl⟩

set_option maxRecDepth 100000 in
set_option maxHeartbeats 1000000 in
theorem ws_kept (b B2 : Nat) (l : List UInt8) (s : ByteArray) (w : World) (h : Bu b B2 l w) (hB : b < B2) (hw : B2 ≤ w.heap.size) (hlen : l.length + s.size ≤ 100000) :
    Calls Tryz.prog 48 #[.pointer (some ⟨b, 0, none⟩), .string s] w fun e w' => e = .returned (.tuple #[.int .i64 s.size, .nilIface]) ∧ Bw b B2 (l ++ s.data.toList) w' ∧ KpB b B2 w w' ∧ ∀ k t cs, t ≠ 5 → k ≠ b → Blk w k t cs → Blk w' k t cs := by
  obtain ⟨i0, hi, hz0, hz1, hz2⟩ := info_parts infoByte
  have HL := Lib.hid hlen
  have HBW := Lib.hid (And.intro hB hw)
  have hbl := Lib.hid h.lt
  clear hlen hB hw
  go_enter Tryz.func48, Tryz.ntmps48
  go_wp2_with fail
  refine (cc_keeps b B2 l _ h).mono ?_
  rintro e w1 ⟨rfl, ⟨v, hbk, hown⟩, hk1, hq1⟩
  have c0 : w1.cell? ⟨b, 0, none⟩ = some (.pointer (some ⟨b, 0, none⟩)) := by rw [Lib.cell_of_heap hbk]; rfl
  have c1 : w1.cell? ⟨b, 1, none⟩ = some v := by rw [Lib.cell_of_heap hbk]; rfl
  have hsz := hk1.1.size
  have hBK := Lib.hid hbk
  have HK := Lib.hid (And.intro hk1 hq1)
  clear hbk hk1 h hq1
  go_wp2_with (at_builtin; refine Lib.wpList_append_own_string _ rfl _ _ 86 9 rfl B2 5 i0 undBy undStr hi hz0 hz1 hz2 _ _ _ rfl hown s rfl ?c3 ?c4 ?c5 ?_)
  case c3 => have := HL.out; unfold maxLen; omega
  case c4 => have := HL.out; omega
  case c5 => have := HBW.out; omega
  intro v' w2 hown' hgrow _
  have hlt : b < w1.heap.size := (Array.getElem?_eq_some_iff.1 hBK.out).1
  have hne := own_ne hown hBK.out
  have hb2 : w2.heap[b]? = some (.cells #[.pointer (some ⟨b, 0, none⟩), v] 88 (0, 0)) := (hgrow.block b hlt (fun e => hne e.symm)).trans hBK.out
  have d0 : w2.cell? ⟨b, 0, none⟩ = some (.pointer (some ⟨b, 0, none⟩)) := by rw [Lib.cell_of_heap hb2]; rfl
  have d1 : w2.cell? ⟨b, 1, none⟩ = some v := by rw [Lib.cell_of_heap hb2]; rfl
  have f1 : w2.frozen? ⟨b, 1, none⟩ = false := Lib.frozen_of_heap hb2 1
  obtain ⟨x, cap, rfl, -⟩ := owns_slice hown'
  have HX := Lib.hid (And.intro hown (And.intro hown' (And.intro hgrow hb2)))
  clear hown hown' hgrow hb2 c0 c1 hi hz0 hz1 hz2 hne hsz hlt
  go_wp2
  go_ret2
  obtain ⟨hown, hown', hgrow, hb2⟩ := HX.out
  refine ⟨rfl, ⟨.slice x (l.length + s.size) cap, ?_, ?_⟩, (HK.out.1.grown hgrow hbl.out HBW.out.1 (fun k hk => (hown.lt k hk).1)).set 1 _, fun k t cs ht hkb hkk => ?_⟩
  · simp [World.setCell, Array.getElem?_modify, hb2]
  · rw [List.length_append, show s.data.toList.length = s.size by simp, ← cells_app]
    exact hown'.kept (row := some b) (grown_set' (grown_refl w2 b) 1 _) (.inr (own_ne hown' hb2))
  · have h1 : w1.heap[k]? = some (.cells cs t (0, 0)) := (HK.out.2 k hkb).trans hkk
    have hne := Lib.ownBlock_ne hown h1 ht
    have h2 : w2.heap[k]? = some (.cells cs t (0, 0)) := (hgrow.block k (Array.getElem?_eq_some_iff.1 h1).1 (fun e => hne e.symm)).trans h1
    exact (Below.heap_setCell _ ⟨b, 1, none⟩ _ k hkb).trans h2

set_option maxRecDepth 100000 in
set_option maxHeartbeats 1000000 in
theorem text_bad (d : Nat) (cv rv : Value) (cs : List (List Nat × Nat)) (rs : List (List Nat × Nat × Nat)) (w : World) (hd : d < 18446744073709551616) (hcs : ClA w cv cs) (hrs : RlA w rv rs) (hk : chk d cs rs ≠ 0) :
    Calls Tryz.prog 18 #[.agg #[.int .u64 d, cv, rv]] w fun e w' => e = .returned (.tuple #[.string ⟨#[]⟩, .int .i64 (chk d cs rs : Nat)]) ∧ Below w.heap.size w w' := by
  obtain ⟨X, hX⟩ : ∃ X, w.alloc (.cells #[.int .u64 d, cv, rv] 27) = X := ⟨_, rfl⟩
  have b1 : Blk X w.heap.size 27 #[.int .u64 d, cv, rv] := by rw [← hX]; exact Blk.new w _ _
  have hW : Below w.heap.size w X := by rw [← hX]; exact balloc (Below.refl _ _) _
  have HX := Lib.hid hX
  have HC := Lib.hid (check_any d cv rv cs rs X hd (hcs.new (hW.mono (Nat.le_refl _))) (hrs.new (hW.mono (Nat.le_refl _))))
  have k0 := cell_of_row _ _ 0 _ _ _ b1
  have k1 := cell_of_row _ _ 1 _ _ _ b1
  have k2 := cell_of_row _ _ 2 _ _ _ b1
  obtain ⟨c, hc⟩ : ∃ c, chk d cs rs = c := ⟨_, rfl⟩
  rw [hc] at HC hk ⊢
  have g0 : ((c : Int) == (0 : Int)) = false := by simp; omega
  have H0 := Lib.hid hW
  obtain ⟨_, x1, c1, rfl, _⟩ := hcs
  obtain ⟨_, x2, c2, rfl, _⟩ := hrs
  clear hX b1 hW hd hc hk
  go_enter Tryz.func18, Tryz.ntmps18
  go_wp2_with fail
  rw [HX.out]
  go_wp2_with (first | (go_at_call 14; refine HC.out.mono ?_; rintro e w1 ⟨rfl, h1⟩; have H1 := Lib.hid h1; clear h1) | fail)
  go_ret2
  exact ⟨rfl, H0.out.trans (H1.out.mono H0.out.size)⟩

theorem join2L (a b : List UInt8) : Lib.join [a, b] [32] = a ++ 32 :: b := by simp [Lib.join, List.intercalate]
theorem join3L (a b c : List UInt8) : Lib.join [a, b, c] [32] = a ++ 32 :: (b ++ 32 :: c) := by simp [Lib.join, List.intercalate]
theorem join4L (a b c d : List UInt8) : Lib.join [a, b, c, d] [32] = a ++ 32 :: (b ++ 32 :: (c ++ 32 :: d)) := by simp [Lib.join, List.intercalate]
theorem endL_ba (l : List UInt8) : (⟨l.toArray⟩ : ByteArray) ++ ⟨#[10]⟩ = ⟨(endL l).toArray⟩ := app_ba l [10]
theorem line2 (a b : List UInt8) (w : World) (h : a.length + b.length ≤ 90000) :
    Calls Tryz.prog 49 #[.slice (some ⟨w.heap.size, 0, none⟩) 2 2] (w.alloc (.cells #[.string ⟨a.toArray⟩, .string ⟨b.toArray⟩] 9)) fun e w' => e = .returned (.string ⟨(endL (a ++ 32 :: b)).toArray⟩) ∧ Below (w.heap.size + 1) (w.alloc (.cells #[.string ⟨a.toArray⟩, .string ⟨b.toArray⟩] 9)) w' := by
  have hN := Blk.new w 9 #[.string ⟨a.toArray⟩, .string ⟨b.toArray⟩]
  have h := pline_any w.heap.size 0 2 [⟨a.toArray⟩, ⟨b.toArray⟩] ⟨(a ++ 32 :: b).toArray⟩ 2 (w.alloc (.cells #[.string ⟨a.toArray⟩, .string ⟨b.toArray⟩] 9)) (fun j x hx => by
    rw [Nat.zero_add, cell_of_row _ _ j _ _ _ hN]
    match j, hx with
    | 0, hx => simp at hx; subst hx; rfl
    | 1, hx => simp at hx; subst hx; rfl
    | j + 2, hx => simp at hx) (by simp) (by simp) (by simp) (by
      show (ByteArray.mk (Lib.join [a, b] [32]).toArray) = _
      rw [join2L]) (by rw [str_size]; simp; omega) rfl
  rw [endL_ba, World.size_alloc] at h
  exact h
theorem line3 (a b c : List UInt8) (w : World) (h : a.length + b.length + c.length ≤ 90000) :
    Calls Tryz.prog 49 #[.slice (some ⟨w.heap.size, 0, none⟩) 3 3] (w.alloc (.cells #[.string ⟨a.toArray⟩, .string ⟨b.toArray⟩, .string ⟨c.toArray⟩] 9)) fun e w' => e = .returned (.string ⟨(endL (a ++ 32 :: (b ++ 32 :: c))).toArray⟩) ∧ Below (w.heap.size + 1) (w.alloc (.cells #[.string ⟨a.toArray⟩, .string ⟨b.toArray⟩, .string ⟨c.toArray⟩] 9)) w' := by
  have hN := Blk.new w 9 #[.string ⟨a.toArray⟩, .string ⟨b.toArray⟩, .string ⟨c.toArray⟩]
  have h := pline_any w.heap.size 0 3 [⟨a.toArray⟩, ⟨b.toArray⟩, ⟨c.toArray⟩] ⟨(a ++ 32 :: (b ++ 32 :: c)).toArray⟩ 3 (w.alloc (.cells #[.string ⟨a.toArray⟩, .string ⟨b.toArray⟩, .string ⟨c.toArray⟩] 9)) (fun j x hx => by
    rw [Nat.zero_add, cell_of_row _ _ j _ _ _ hN]
    match j, hx with
    | 0, hx => simp at hx; subst hx; rfl
    | 1, hx => simp at hx; subst hx; rfl
    | 2, hx => simp at hx; subst hx; rfl
    | j + 3, hx => simp at hx) (by simp) (by simp) (by simp) (by
      show (ByteArray.mk (Lib.join [a, b, c] [32]).toArray) = _
      rw [join3L]) (by rw [str_size]; simp; omega) rfl
  rw [endL_ba, World.size_alloc] at h
  exact h
theorem line4 (a b c d : List UInt8) (w : World) (h : a.length + b.length + c.length + d.length ≤ 90000) :
    Calls Tryz.prog 49 #[.slice (some ⟨w.heap.size, 0, none⟩) 4 4] (w.alloc (.cells #[.string ⟨a.toArray⟩, .string ⟨b.toArray⟩, .string ⟨c.toArray⟩, .string ⟨d.toArray⟩] 9)) fun e w' => e = .returned (.string ⟨(endL (a ++ 32 :: (b ++ 32 :: (c ++ 32 :: d)))).toArray⟩) ∧ Below (w.heap.size + 1) (w.alloc (.cells #[.string ⟨a.toArray⟩, .string ⟨b.toArray⟩, .string ⟨c.toArray⟩, .string ⟨d.toArray⟩] 9)) w' := by
  have hN := Blk.new w 9 #[.string ⟨a.toArray⟩, .string ⟨b.toArray⟩, .string ⟨c.toArray⟩, .string ⟨d.toArray⟩]
  have h := pline_any w.heap.size 0 4 [⟨a.toArray⟩, ⟨b.toArray⟩, ⟨c.toArray⟩, ⟨d.toArray⟩] ⟨(a ++ 32 :: (b ++ 32 :: (c ++ 32 :: d))).toArray⟩ 4 (w.alloc (.cells #[.string ⟨a.toArray⟩, .string ⟨b.toArray⟩, .string ⟨c.toArray⟩, .string ⟨d.toArray⟩] 9)) (fun j x hx => by
    rw [Nat.zero_add, cell_of_row _ _ j _ _ _ hN]
    match j, hx with
    | 0, hx => simp at hx; subst hx; rfl
    | 1, hx => simp at hx; subst hx; rfl
    | 2, hx => simp at hx; subst hx; rfl
    | 3, hx => simp at hx; subst hx; rfl
    | j + 4, hx => simp at hx) (by simp) (by simp) (by simp) (by
      show (ByteArray.mk (Lib.join [a, b, c, d] [32]).toArray) = _
      rw [join4L]) (by rw [str_size]; simp; omega) rfl
  rw [endL_ba, World.size_alloc] at h
  exact h

theorem chk_len {d : Nat} {cs : List (List Nat × Nat)} {rs : List (List Nat × Nat × Nat)} (h : chk d cs rs = 0) : cs.length ≤ 64 ∧ rs.length ≤ 64 := by
  unfold chk at h
  split at h
  · omega
  · omega
theorem tot_C : ∀ (l : List (List Nat × Nat)), (∀ c ∈ l, Ad c.1) → ((l.map lnC).flatMap endL).length ≤ 242 * l.length
  | [], _ => by simp
  | c :: l, h => by
    have h1 := tot_C l (fun x hx => h x (by simp [hx]))
    have h2 := lnC_len (h c (by simp))
    simp only [List.map_cons, List.flatMap_cons, List.length_append, List.length_cons, endL, List.length_nil] at h1 ⊢
    omega
theorem tot_R : ∀ (l : List (List Nat × Nat × Nat)), (∀ c ∈ l, Ad c.1 ∧ c.2.1 < 4294967296) → ((l.map lnR).flatMap endL).length ≤ 265 * l.length
  | [], _ => by simp
  | c :: l, h => by
    have h1 := tot_R l (fun x hx => h x (by simp [hx]))
    have h2 := lnR_len (h c (by simp)).1 (h c (by simp)).2
    simp only [List.map_cons, List.flatMap_cons, List.length_append, List.length_cons, endL, List.length_nil] at h1 ⊢
    omega
/-- What is written when so many clearances are, so many releases. -/
def accC (d : Nat) (cs : List (List Nat × Nat)) (k : Nat) : List UInt8 := endL (lnD d) ++ ((cs.take k).map lnC).flatMap endL
def accR (d : Nat) (cs : List (List Nat × Nat)) (rs : List (List Nat × Nat × Nat)) (k : Nat) : List UInt8 := accC d cs cs.length ++ ((rs.take k).map lnR).flatMap endL
theorem accC_step (d : Nat) (cs : List (List Nat × Nat)) (k : Nat) (c : List Nat × Nat) (h : cs[k]? = some c) : accC d cs k ++ endL (lnC c) = accC d cs (k + 1) := by
  unfold accC
  rw [List.take_add_one, h]
  simp [List.flatMap_append]
theorem accR_step (d : Nat) (cs : List (List Nat × Nat)) (rs : List (List Nat × Nat × Nat)) (k : Nat) (c : List Nat × Nat × Nat) (h : rs[k]? = some c) : accR d cs rs k ++ endL (lnR c) = accR d cs rs (k + 1) := by
  unfold accR
  rw [List.take_add_one, h]
  simp [List.flatMap_append]
theorem accC_0 (d : Nat) (cs : List (List Nat × Nat)) : accC d cs 0 = endL (lnD d) := by simp [accC]
theorem accR_0 (d : Nat) (cs : List (List Nat × Nat)) (rs : List (List Nat × Nat × Nat)) : accR d cs rs 0 = accC d cs cs.length := by simp [accR]
theorem accR_all (d : Nat) (cs : List (List Nat × Nat)) (rs : List (List Nat × Nat × Nat)) : accR d cs rs rs.length = txP d cs rs := by
  unfold accR accC txP lnsP
  rw [List.take_length, List.take_length, List.flatMap_cons, List.flatMap_append, List.append_assoc]
theorem accC_len {d : Nat} {cs : List (List Nat × Nat)} (h : ∀ c ∈ cs, Ad c.1) (k : Nat) : (accC d cs k).length ≤ 300 + 242 * k := by
  have h1 := tot_C (cs.take k) (fun c hc => h c (List.mem_of_mem_take hc))
  have h2 := lnD_len d
  have h3 : (cs.take k).length ≤ k := by rw [List.length_take]; omega
  have h4 : 242 * (cs.take k).length ≤ 242 * k := Nat.mul_le_mul_left _ h3
  unfold accC
  rw [List.length_append, endL, List.length_append, List.length_singleton]
  omega
theorem accR_len {d : Nat} {cs : List (List Nat × Nat)} {rs : List (List Nat × Nat × Nat)} (h : ∀ c ∈ cs, Ad c.1) (h' : ∀ c ∈ rs, Ad c.1 ∧ c.2.1 < 4294967296) (k : Nat) : (accR d cs rs k).length ≤ 300 + 242 * cs.length + 265 * k := by
  have h1 := tot_R (rs.take k) (fun c hc => h' c (List.mem_of_mem_take hc))
  have h2 := accC_len (d := d) h cs.length
  have h3 : (rs.take k).length ≤ k := by rw [List.length_take]; omega
  have h4 : 265 * (rs.take k).length ≤ 265 * k := Nat.mul_le_mul_left _ h3
  unfold accR
  rw [List.length_append]
  omega

set_option maxRecDepth 100000 in
set_option maxHeartbeats 8000000 in
theorem text_ok (d : Nat) (cv rv : Value) (cs : List (List Nat × Nat)) (rs : List (List Nat × Nat × Nat)) (w : World) (hd : d < 18446744073709551616) (hcs : ClA w cv cs) (hrs : RlA w rv rs) (hk : chk d cs rs = 0) (hT : TZ w) (h10 : T10 w) :
    Calls Tryz.prog 18 #[.agg #[.int .u64 d, cv, rv]] w fun e w' => e = .returned (.tuple #[.string ⟨(txP d cs rs).toArray⟩, .int .i64 0]) ∧ Below w.heap.size w w' := by
  have hlen := chk_len hk
  have hAc : ∀ c ∈ cs, Ad c.1 := fun c hc => (hcs.1 c hc).1
  have hAr : ∀ c ∈ rs, Ad c.1 ∧ c.2.1 < 4294967296 := fun c hc => ⟨(hrs.1 c hc).1, (hrs.1 c hc).2.1⟩
  obtain ⟨X, hX⟩ : ∃ X, w.alloc (.cells #[.int .u64 d, cv, rv] 27) = X := ⟨_, rfl⟩
  have b1 : Blk X w.heap.size 27 #[.int .u64 d, cv, rv] := by rw [← hX]; exact Blk.new w _ _
  have hW : Below w.heap.size w X := by rw [← hX]; exact balloc (Below.refl _ _) _
  have HX := Lib.hid hX
  have hc := check_any d cv rv cs rs X hd (hcs.new hW) (hrs.new hW)
  rw [hk] at hc
  have HC := Lib.hid hc
  have HL := Lib.hid (fun (a : Nat) (ha : a < 2 ^ 64) (Y : World) (hY : Below X.heap.size X Y) => ltext_any a ha Y (hT.keep (hW.trans (hY.mono hW.size))))
  have HM := Lib.hid (fun (n : Nat) (hn : n < 4294967296) (Y : World) (hY : Below X.heap.size X Y) => number_any n hn Y (h10.keep (hW.trans (hY.mono hW.size))))
  have HCS := Lib.hid (fun (Y : World) (hY : Below X.heap.size X Y) => hcs.new (hW.trans (hY.mono hW.size)))
  have HRS := Lib.hid (fun (Y : World) (hY : Below X.heap.size X Y) => hrs.new (hW.trans (hY.mono hW.size)))
  obtain ⟨_, x1, c1, rfl, hl1, _⟩ := hcs
  obtain ⟨_, x2, c2, rfl, hl2, _⟩ := hrs
  have HP := Lib.hid (fun (Y : World) (hY : Below X.heap.size X Y) => (by
    have q := b1.keep hY
    exact ⟨cell_of_row _ _ 0 _ _ _ q, cell_of_row _ _ 1 _ _ _ q, cell_of_row _ _ 2 _ _ _ q⟩ : Y.cell? ⟨w.heap.size, 0, none⟩ = some (.int .u64 d) ∧ Y.cell? ⟨w.heap.size, 1, none⟩ = some (.slice x1 cs.length c1) ∧ Y.cell? ⟨w.heap.size, 2, none⟩ = some (.slice x2 rs.length c2)))
  have hbX := b1.lt
  have H0 := Lib.hid (And.intro hW (And.intro hlen (And.intro hAc (And.intro hAr (And.intro hd hbX)))))
  obtain ⟨n1, hn1⟩ : ∃ n, cs.length = n := ⟨_, rfl⟩
  obtain ⟨n2, hn2⟩ : ∃ n, rs.length = n := ⟨_, rfl⟩
  have HN := Lib.hid (And.intro hn1 hn2)
  obtain ⟨k0, k1, k2⟩ := HP.out X (Below.refl _ _)
  rw [hn1] at HX HC HP k1 hl1 ⊢
  rw [hn2] at HX HC HP k2 hl2 ⊢
  clear hX b1 hW hc hT h10 hd hk hlen hAc hAr hn1 hn2 hbX
  go_enter Tryz.func18, Tryz.ntmps18
  go_wp2_with fail
  rw [HX.out]
  clear HX
  go_upto_region 5 with (first | (go_at_call 14; refine HC.out.mono ?_; rintro e w1 ⟨rfl, h1⟩; have H1 := Lib.hid h1; clear h1) | fail)
  clear HC k0 k1 k2
  obtain ⟨W2, hW2⟩ : ∃ W2, w1.alloc (.cells #[.pointer none, .slice none 0 0] 88) = W2 := ⟨_, rfl⟩
  have hbb : Blk W2 w1.heap.size 88 #[.pointer none, .slice none 0 0] := by rw [← hW2]; exact Blk.new _ _ _
  have hsz : W2.heap.size = w1.heap.size + 1 := by rw [← hW2]; simp
  have h2 : Below X.heap.size X W2 := by rw [← hW2]; exact balloc H1.out _
  obtain ⟨B, hB⟩ : ∃ B, w1.heap.size = B := ⟨_, rfl⟩
  have hXB : X.heap.size ≤ B := by rw [← hB]; exact H1.out.size
  rw [hB] at hbb hsz ⊢
  rw [hW2]
  have hBu := Bu.new W2 B hbb (B + 1)
  have H2 := Lib.hid (And.intro hBu (And.intro h2 (And.intro hsz hXB)))
  obtain ⟨k0, k1, k2⟩ := HP.out W2 h2
  clear hW2 hbb hsz h2 hB hXB hBu H1
  have hDl := lnD_len d
  have HDL := Lib.hid hDl
  clear hDl
  go_upto_region 6 with (first | (go_at_call 50; refine (HL.out d H0.out.2.2.2.2.1 _ H2.out.2.1).mono ?_; rintro e w3 ⟨rfl, h3⟩; have H3 := Lib.hid h3; clear h3) | (go_at_call 49; refine (line2 [100, 101, 102, 97, 117, 108, 116] (txL d) w3 (by have := txL_len d; simp; omega)).mono ?_; rintro e w4 ⟨rfl, h4⟩; have H4 := Lib.hid ((balloc H3.out (.cells #[.string ⟨[100, 101, 102, 97, 117, 108, 116].toArray⟩, .string ⟨(txL d).toArray⟩] 9)).trans (h4.mono (Nat.le_trans H3.out.size (Nat.le_succ _)))); clear h4) | (go_at_call 48; refine (ws_any B (B + 1) [] ⟨(endL (lnD d)).toArray⟩ w4 (H2.out.1.below H4.out) (Nat.lt_succ_self _) (by have := H4.out.size; have := H2.out.2.2.1; omega) (by rw [str_size]; have := HDL.out; simp [endL]; omega)).mono ?_; rintro e w5 ⟨rfl, h5, k5⟩; have H5 := Lib.hid (And.intro h5.bu ((KpB.below (KpB.refl B (B + 1) W2) H4.out (by have := H2.out.2.2.1; omega)).trans k5)); clear h5 k5) | fail)
  have hX5 : Below X.heap.size X w5 := H2.out.2.1.trans (H5.out.2.1.mono H2.out.2.2.2)
  clear k0 k1 k2 H3 H4 HDL
  obtain ⟨k0, k1, k2⟩ := HP.out w5 hX5
  clear hX5
  go_wp2_with fail
  clear k0 k1 k2
  go_loopw [24] (fun t wr => ∃ k : Nat, k ≤ n1 ∧ t = .int .i64 k ∧ Bu B (B + 1) (accC d cs k) wr ∧ KpB B (B + 1) W2 wr) (fun t _ => n1 - (intOf t).toNat)
  case atStart => exact ⟨0, Nat.zero_le _, rfl, by rw [accC_0]; exact H5.out.1, H5.out.2⟩
  case round =>
    obtain ⟨k, hk, rfl, hBu, hKp⟩ := hrel
    have hXw : Below X.heap.size X wr := H2.out.2.1.trans (hKp.1.mono H2.out.2.2.2)
    by_cases hlt : k < n1
    · obtain ⟨c, hc⟩ : ∃ c, cs[k]? = some c := ⟨_, List.getElem?_eq_getElem (by have := HN.out; omega)⟩
      have hcsw := HCS.out wr hXw
      have hca := hcsw.1 c (List.mem_of_getElem? hc)
      obtain ⟨_, x', cap', he, _, hcells⟩ := hcsw
      obtain ⟨b, o, hx', hbl, hrng⟩ := hcells (fun e => by rw [e] at hc; cases hc)
      injection he with e1 e2 e3
      rw [← e1] at hx'
      subst hx'
      have hr := hrng k c hc
      obtain ⟨dd, hd1, hd2⟩ := und_clear
      have hzs : zcC.size = 21 := by rw [zcC_lit]; rfl
      have g0 : (k : Int) < (n1 : Int) := by omega
      have g1 : (0 : Int) ≤ (k : Int) := by omega
      have g2 : IntKind.i64.wrap ((k : Int) + 1) = ((k + 1 : Nat) : Int) := IntWalk.i64_in _ (by omega)
      have HS := Lib.hid (And.intro hr (And.intro hca (And.intro hd1 (And.intro hd2 hzs))))
      have HB := Lib.hid (And.intro hBu (And.intro hKp (And.intro hXw hc)))
      clear hr hrng hcells e1 e2 e3 hc hd1 hd2 hca hBu hKp hXw hbl hzs
      go_upto_region 8 with fail
      refine wp_region_lit ?_
      refine wpList_plain rfl fun K hK => ?_
      go_simp
      refine hK _ _ ?_
      clear hK K
      refine wpList_load_midA rfl 72 (.tmp 26) rfl b (o + k * 21) rfl (clC c) dd HS.out.1 HS.out.2.2.1 HS.out.2.2.2.1 (by rw [info_clear, clC_size HS.out.2.1.1]) ?_
      refine wpList_plain rfl fun K hK => ?_
      go_simp
      refine hK _ _ ?_
      clear hK K
      rw [← zcC_lit]
      refine wpList_store_row rfl 72 (.tmp 7) (.tmp 27) rfl wr.heap.size (clC c) rfl rfl 72 zcC (Blk.new wr _ _) (by rw [info_clear, clC_size HS.out.2.1.1]) (by rw [clC_size HS.out.2.1.1, HS.out.2.2.2.2]) (clC_one c) (wpList_nil ?_)
      rw [World.setRow_alloc_new]
      obtain ⟨w6, hw6⟩ : ∃ w6, wr.alloc (.cells (clC c) 72) = w6 := ⟨_, rfl⟩
      have hN6 : Blk w6 wr.heap.size 72 (clC c) := by rw [← hw6]; exact Blk.new wr _ _
      have hb6 : Below wr.heap.size wr w6 := by rw [← hw6]; exact balloc (Below.refl _ wr) _
      rw [hw6]
      have H6 := Lib.hid (And.intro hN6 (And.intro (HB.out.1.below hb6) (And.intro (HB.out.2.2.1.trans (hb6.mono HB.out.2.2.1.size)) hb6)))
      have hS0 : Blk w6.drew wr.heap.size 72 (clC c) := hN6.drew'
      have HSZ := Lib.hid (show (∀ Z, Below w6.heap.size w6 Z → B + 1 ≤ Z.heap.size) ∧ (accC d cs k).length + (⟨(endL (lnC c)).toArray⟩ : ByteArray).size ≤ 100000 ∧ wr.heap.size ≠ B from ⟨fun Z hZ => (by have := hZ.size; have := hb6.size; have := HB.out.2.1.1.size; have := H2.out.2.2.1; omega), (by rw [str_size]; have := accC_len (d := d) H0.out.2.2.1 k; have := lnC_len HS.out.2.1.1; have := H0.out.2.1; have := HN.out; simp only [endL, List.length_append, List.length_singleton]; omega), (by have := HB.out.2.1.1.size; have := H2.out.2.2.1; omega)⟩)
      have HC := Lib.hid (show Below w6.heap.size w6 w6.drew from ⟨rfl, rfl, rfl, Nat.le_refl _, fun _ _ => rfl⟩)
      clear hw6 hN6 hb6
      go_upto_region 9 with fail
      refine wp_region_held_drew (S := fun w' => Blk w' wr.heap.size 72 (clC c)) (by as_aux_lemma => kernel_rfl) hS0 (fun hHeld => ?_)
      simp only [List.size_toArray, List.length_cons, List.length_nil, Nat.reduceAdd, Array.replicate_succ, Array.replicate_zero, List.push_toArray, List.nil_append, List.cons_append]
      refine wpAnyH_take (i := 0) (oi := { dst := some 28, op := Op.fieldAddr 72 (Operand.tmp 7) 0, type := 0, pos := "policy.go:79", after := #[], guard := none }) (v := ?vq0) rfl (by as_aux_lemma => kernel_rfl) (by as_aux_lemma => kernel_rfl) (by as_aux_lemma => kernel_rfl) (fun _ _ _ h => h) (Or.inl ⟨by rfl, ?yq0⟩) (by assumption) ?rq0
      case yq0 => (intro w hSw; (try dsimp only at hSw); have kq := cl_label HS.out.2.1.1 hSw.range; rw [Nat.zero_add] at kq; go_simp <;> with_reducible rfl)
      simp only [Act.put, List.setIfInBounds_toArray, List.set_cons_zero, List.set_cons_succ]
      refine wpAnyH_take (i := 1) (oi := { dst := some 29, op := Op.load 29 (Operand.tmp 28), type := 29, pos := "policy.go:79", after := #[{ on := 0, ground := Ground.data }], guard := none }) (v := .agg (adC c.1)) rfl (by as_aux_lemma => kernel_rfl) (by as_aux_lemma => kernel_rfl) (by as_aux_lemma => kernel_rfl) (fun _ _ _ h => h) (yieldsIf_load_A (by rfl) 29 (.tmp 28) rfl (wr.heap.size) (0) rfl (adC c.1) _ (fun wS hw => by rw [adC_list]; exact cl_addr hw.range) und_addr rfl (by rw [info_addr, adC_size HS.out.2.1.1])) (by assumption) ?_
      simp only [Act.put, List.setIfInBounds_toArray, List.set_cons_zero, List.set_cons_succ]
      refine wpAnyH_take (i := 3) (oi := { dst := some 31, op := Op.fieldAddr 72 (Operand.tmp 7) 1, type := 0, pos := "policy.go:79", after := #[], guard := none }) (v := ?vq2) rfl (by as_aux_lemma => kernel_rfl) (by as_aux_lemma => kernel_rfl) (by as_aux_lemma => kernel_rfl) (fun _ _ _ h => h) (Or.inl ⟨by rfl, ?yq2⟩) (by assumption) ?rq2
      case yq2 => (intro w hSw; (try dsimp only at hSw); have kq := cl_label HS.out.2.1.1 hSw.range; rw [Nat.zero_add] at kq; go_simp <;> with_reducible rfl)
      simp only [Act.put, List.setIfInBounds_toArray, List.set_cons_zero, List.set_cons_succ]
      refine wpAnyH_take (i := 4) (oi := { dst := some 32, op := Op.load 23 (Operand.tmp 31), type := 23, pos := "policy.go:79", after := #[{ on := 3, ground := Ground.data }], guard := none }) (v := ?vq3) rfl (by as_aux_lemma => kernel_rfl) (by as_aux_lemma => kernel_rfl) (by as_aux_lemma => kernel_rfl) (fun _ _ _ h => h) (Or.inl ⟨by rfl, ?yq3⟩) (by assumption) ?rq3
      case yq3 => (intro w hSw; (try dsimp only at hSw); have kq := cl_label HS.out.2.1.1 hSw.range; rw [Nat.zero_add] at kq; go_simp <;> with_reducible rfl)
      simp only [Act.put, List.setIfInBounds_toArray, List.set_cons_zero, List.set_cons_succ]
      refine wpAnyH_ready (rs := [2]) (by as_aux_lemma => kernel_rfl) (by simp) ?_
      refine AllReadyH.cons (o := { dst := some 30, op := Op.call { callee := Callee.value (Operand.func 28), args := #[Operand.tmp 29], argTypes := #[29] }, type := 9, pos := "policy.go:79", after := #[{ on := 1, ground := Ground.data }], guard := none }) rfl (fun K hK => ?_) (by exact AllReadyH.nil)
      rw [if_pos (by rfl)]
      go_simp
      (go_at_call 28; refine (nname_any c.1 HS.out.2.1.1 _).mono ?_; rintro e wz ⟨rfl, hz⟩)
      replace HC := Lib.hid (HC.out.trans (hz.mono HC.out.size))
      clear hz
      refine hK.out _ _ (by (try dsimp only); (first | exact H6.out.1.keep HC.out | exact (H6.out.1.keep HC.out).alloc _ | exact HQ9.out)) (fun hHeld => ?_)
      clear hK K
      simp only [List.setIfInBounds_toArray, List.set_cons_zero, List.set_cons_succ]
      refine wpAnyH_ready (rs := [5]) (by as_aux_lemma => kernel_rfl) (by simp) ?_
      refine AllReadyH.cons (o := { dst := some 33, op := Op.call { callee := Callee.value (Operand.func 50), args := #[Operand.tmp 32], argTypes := #[23] }, type := 9, pos := "policy.go:79", after := #[{ on := 4, ground := Ground.data }, { on := 2, ground := Ground.chain }], guard := none }) rfl (fun K hK => ?_) (by exact AllReadyH.nil)
      rw [if_pos (by rfl)]
      go_simp
      (go_at_call 50; refine (HL.out c.2 HS.out.2.1.2 _ (H6.out.2.2.1.trans (HC.out.mono H6.out.2.2.1.size))).mono ?_; rintro e wy ⟨rfl, hz⟩)
      replace HC := Lib.hid (HC.out.trans (hz.mono HC.out.size))
      clear hz
      refine hK.out _ _ (by (try dsimp only); (first | exact H6.out.1.keep HC.out | exact (H6.out.1.keep HC.out).alloc _ | exact HQ9.out)) (fun hHeld => ?_)
      clear hK K
      simp only [List.setIfInBounds_toArray, List.set_cons_zero, List.set_cons_succ]
      refine wpAnyH_ready (rs := [6]) (by as_aux_lemma => kernel_rfl) (by simp) ?_
      refine AllReadyH.cons (o := { dst := some 34, op := Op.buildSlice 45 3 #[(0, Operand.const (Value.string { data := #[99, 108, 101, 97, 114] })), (1, Operand.tmp 30), (2, Operand.tmp 33)], type := 45, pos := "policy.go:79", after := #[{ on := 2, ground := Ground.data }, { on := 5, ground := Ground.data }], guard := none }) rfl (fun K hK => ?_) (by exact AllReadyH.nil)
      rw [if_pos (by rfl)]
      go_simp
      refine hK.out _ _ (by (try dsimp only); (first | exact H6.out.1.keep HC.out | exact (H6.out.1.keep HC.out).alloc _ | exact HQ9.out)) (fun hHeld => ?_)
      clear hK K
      simp only [List.setIfInBounds_toArray, List.set_cons_zero, List.set_cons_succ]
      refine wpAnyH_ready (rs := [7]) (by as_aux_lemma => kernel_rfl) (by simp) ?_
      refine AllReadyH.cons (o := { dst := some 35, op := Op.call { callee := Callee.value (Operand.func 49), args := #[Operand.tmp 34], argTypes := #[45] }, type := 9, pos := "policy.go:79", after := #[{ on := 6, ground := Ground.data }, { on := 5, ground := Ground.chain }], guard := none }) rfl (fun K hK => ?_) (by exact AllReadyH.nil)
      rw [if_pos (by rfl)]
      go_simp
      (go_at_call 49; refine (line3 [99, 108, 101, 97, 114] (nmL c.1) (txL c.2) _ (by have := txL_len c.2; have h2 := nmL_len c.1; rw [HS.out.2.1.1.1] at h2; simp; omega)).mono ?_; rintro e wx ⟨rfl, hz⟩)
      replace HC := Lib.hid ((balloc HC.out (.cells #[.string ⟨[99, 108, 101, 97, 114].toArray⟩, .string ⟨(nmL c.1).toArray⟩, .string ⟨(txL c.2).toArray⟩] 9)).trans (hz.mono (Nat.le_trans HC.out.size (Nat.le_succ _))))
      clear hz
      refine hK.out _ _ (by (try dsimp only); (first | exact H6.out.1.keep HC.out | exact (H6.out.1.keep HC.out).alloc _ | exact HQ9.out)) (fun hHeld => ?_)
      clear hK K
      simp only [List.setIfInBounds_toArray, List.set_cons_zero, List.set_cons_succ]
      refine wpAnyH_ready (rs := [8]) (by as_aux_lemma => kernel_rfl) (by simp) ?_
      refine AllReadyH.cons (o := { dst := some 36, op := Op.call { callee := Callee.value (Operand.func 48), args := #[Operand.tmp 5, Operand.tmp 35], argTypes := #[88, 9] }, type := 91, pos := "policy.go:79", after := #[{ on := 7, ground := Ground.data }, { on := 7, ground := Ground.chain }], guard := none }) rfl (fun K hK => ?_) (by exact AllReadyH.nil)
      rw [if_pos (by rfl)]
      go_simp
      (go_at_call 48; refine (ws_kept B (B + 1) (accC d cs k) ⟨(endL (lnC c)).toArray⟩ wx (H6.out.2.1.below HC.out) (Nat.lt_succ_self _) (HSZ.out.1 _ HC.out) HSZ.out.2.1).mono ?_; rintro e w9 ⟨rfl, h9, k9, q9⟩)
      have HQ9 := Lib.hid (q9 _ _ _ (by decide) HSZ.out.2.2 (H6.out.1.keep HC.out))
      have HK9 := Lib.hid (And.intro h9.bu k9)
      clear h9 k9 q9
      refine hK.out _ _ (by (try dsimp only); (first | exact H6.out.1.keep HC.out | exact (H6.out.1.keep HC.out).alloc _ | exact HQ9.out)) (fun hHeld => ?_)
      clear hK K
      simp only [List.setIfInBounds_toArray, List.set_cons_zero, List.set_cons_succ]
      refine wpAnyH_done (by as_aux_lemma => kernel_rfl) ?_ _
      clear hHeld
      go_wp2_with fail
      exact ⟨⟨k + 1, by omega, congrArg (Value.int .i64) (by omega), by rw [← accC_step d cs k c HB.out.2.2.2]; exact HK9.out.1, ((HB.out.2.1.below H6.out.2.2.2 (HB.out.2.1.1.size |> fun h => by have := H2.out.2.2.1; omega)).below HC.out (by have := H6.out.2.2.2.size; have := HB.out.2.1.1.size; have := H2.out.2.2.1; omega)).trans HK9.out.2⟩, by simp [intOf]; omega⟩
    · obtain rfl : n1 = k := by omega
      obtain ⟨k0, k1, k2⟩ := HP.out wr hXw
      have HB1 := Lib.hid (And.intro hBu hKp)
      clear hBu hKp hXw k0 k1
      go_wp2_with fail
      clear k2
      go_loopw [41] (fun t wr => ∃ j : Nat, j ≤ n2 ∧ t = .int .i64 j ∧ Bu B (B + 1) (accR d cs rs j) wr ∧ KpB B (B + 1) W2 wr) (fun t _ => n2 - (intOf t).toNat)
      case atStart => exact ⟨0, Nat.zero_le _, rfl, by rw [accR_0, HN.out.1]; exact HB1.out.1, HB1.out.2⟩
      clear HB1
      case round =>
        obtain ⟨j, hk, rfl, hBu, hKp⟩ := hrel
        have hXw : Below X.heap.size X wr := H2.out.2.1.trans (hKp.1.mono H2.out.2.2.2)
        by_cases hlt : j < n2
        · obtain ⟨c, hc⟩ : ∃ c, rs[j]? = some c := ⟨_, List.getElem?_eq_getElem (by have := HN.out; omega)⟩
          have hcsw := HRS.out wr hXw
          have hca := hcsw.1 c (List.mem_of_getElem? hc)
          obtain ⟨_, x', cap', he, _, hcells⟩ := hcsw
          obtain ⟨b, o, hx', hbl, hrng⟩ := hcells (fun e => by rw [e] at hc; cases hc)
          injection he with e1 e2 e3
          rw [← e1] at hx'
          subst hx'
          have hr := hrng j c hc
          obtain ⟨dd, hd1, hd2⟩ := und_release
          have hzs : zrC.size = 22 := by rw [zrC_lit]; rfl
          have g0 : (j : Int) < (n2 : Int) := by omega
          have g1 : (0 : Int) ≤ (j : Int) := by omega
          have g2 : IntKind.i64.wrap ((j : Int) + 1) = ((j + 1 : Nat) : Int) := IntWalk.i64_in _ (by omega)
          have HS := Lib.hid (And.intro hr (And.intro hca (And.intro hd1 (And.intro hd2 hzs))))
          have HB := Lib.hid (And.intro hBu (And.intro hKp (And.intro hXw hc)))
          clear hr hrng hcells e1 e2 e3 hc hd1 hd2 hca hBu hKp hXw hbl hzs
          go_upto_region 13 with fail
          refine wp_region_lit ?_
          refine wpList_plain rfl fun K hK => ?_
          go_simp
          refine hK _ _ ?_
          clear hK K
          refine wpList_load_midA rfl 74 (.tmp 43) rfl b (o + j * 22) rfl (rlC c) dd HS.out.1 HS.out.2.2.1 HS.out.2.2.2.1 (by rw [info_release, rlC_size HS.out.2.1.1]) ?_
          refine wpList_plain rfl fun K hK => ?_
          go_simp
          refine hK _ _ ?_
          clear hK K
          rw [← zrC_lit]
          refine wpList_store_row rfl 74 (.tmp 9) (.tmp 44) rfl wr.heap.size (rlC c) rfl rfl 74 zrC (Blk.new wr _ _) (by rw [info_release, rlC_size HS.out.2.1.1]) (by rw [rlC_size HS.out.2.1.1, HS.out.2.2.2.2]) (rlC_one c) (wpList_nil ?_)
          rw [World.setRow_alloc_new]
          obtain ⟨w6, hw6⟩ : ∃ w6, wr.alloc (.cells (rlC c) 74) = w6 := ⟨_, rfl⟩
          have hN6 : Blk w6 wr.heap.size 74 (rlC c) := by rw [← hw6]; exact Blk.new wr _ _
          have hb6 : Below wr.heap.size wr w6 := by rw [← hw6]; exact balloc (Below.refl _ wr) _
          rw [hw6]
          have H6 := Lib.hid (And.intro hN6 (And.intro (HB.out.1.below hb6) (And.intro (HB.out.2.2.1.trans (hb6.mono HB.out.2.2.1.size)) hb6)))
          have hS0 : Blk w6.drew wr.heap.size 74 (rlC c) := hN6.drew'
          have HSZ := Lib.hid (show (∀ Z, Below w6.heap.size w6 Z → B + 1 ≤ Z.heap.size) ∧ (accR d cs rs j).length + (⟨(endL (lnR c)).toArray⟩ : ByteArray).size ≤ 100000 ∧ wr.heap.size ≠ B from ⟨fun Z hZ => (by have := hZ.size; have := hb6.size; have := HB.out.2.1.1.size; have := H2.out.2.2.1; omega), (by rw [str_size]; have := accR_len (d := d) H0.out.2.2.1 H0.out.2.2.2.1 j; have := lnR_len HS.out.2.1.1 HS.out.2.1.2.1; have := H0.out.2.1; have := HN.out; simp only [endL, List.length_append, List.length_singleton]; omega), (by have := HB.out.2.1.1.size; have := H2.out.2.2.1; omega)⟩)
          have HC := Lib.hid (show Below w6.heap.size w6 w6.drew from ⟨rfl, rfl, rfl, Nat.le_refl _, fun _ _ => rfl⟩)
          clear hw6 hN6 hb6
          go_upto_region 14 with fail
          refine wp_region_held_drew (S := fun w' => Blk w' wr.heap.size 74 (rlC c)) (by as_aux_lemma => kernel_rfl) hS0 (fun hHeld => ?_)
          simp only [List.size_toArray, List.length_cons, List.length_nil, Nat.reduceAdd, Array.replicate_succ, Array.replicate_zero, List.push_toArray, List.nil_append, List.cons_append]
          refine wpAnyH_take (i := 0) (oi := { dst := some 45, op := Op.fieldAddr 74 (Operand.tmp 9) 0, type := 0, pos := "policy.go:82", after := #[], guard := none }) (v := ?vq0R) rfl (by as_aux_lemma => kernel_rfl) (by as_aux_lemma => kernel_rfl) (by as_aux_lemma => kernel_rfl) (fun _ _ _ h => h) (Or.inl ⟨by rfl, ?yq0R⟩) (by assumption) ?rq0R
          case yq0R => (intro w hSw; (try dsimp only at hSw); have kq := rl_target HS.out.2.1.1 hSw.range; rw [Nat.zero_add] at kq; have kp := rl_entry HS.out.2.1.1 hSw.range; rw [Nat.zero_add] at kp; go_simp <;> with_reducible rfl)
          simp only [Act.put, List.setIfInBounds_toArray, List.set_cons_zero, List.set_cons_succ]
          refine wpAnyH_take (i := 1) (oi := { dst := some 46, op := Op.load 29 (Operand.tmp 45), type := 29, pos := "policy.go:82", after := #[{ on := 0, ground := Ground.data }], guard := none }) (v := .agg (adC c.1)) rfl (by as_aux_lemma => kernel_rfl) (by as_aux_lemma => kernel_rfl) (by as_aux_lemma => kernel_rfl) (fun _ _ _ h => h) (yieldsIf_load_A (by rfl) 29 (.tmp 45) rfl (wr.heap.size) (0) rfl (adC c.1) _ (fun wS hw => by rw [adC_list]; exact rl_addr hw.range) und_addr rfl (by rw [info_addr, adC_size HS.out.2.1.1])) (by assumption) ?_
          simp only [Act.put, List.setIfInBounds_toArray, List.set_cons_zero, List.set_cons_succ]
          refine wpAnyH_take (i := 3) (oi := { dst := some 48, op := Op.fieldAddr 74 (Operand.tmp 9) 1, type := 0, pos := "policy.go:82", after := #[], guard := none }) (v := ?vq2R) rfl (by as_aux_lemma => kernel_rfl) (by as_aux_lemma => kernel_rfl) (by as_aux_lemma => kernel_rfl) (fun _ _ _ h => h) (Or.inl ⟨by rfl, ?yq2R⟩) (by assumption) ?rq2R
          case yq2R => (intro w hSw; (try dsimp only at hSw); have kq := rl_target HS.out.2.1.1 hSw.range; rw [Nat.zero_add] at kq; have kp := rl_entry HS.out.2.1.1 hSw.range; rw [Nat.zero_add] at kp; go_simp <;> with_reducible rfl)
          simp only [Act.put, List.setIfInBounds_toArray, List.set_cons_zero, List.set_cons_succ]
          refine wpAnyH_take (i := 4) (oi := { dst := some 49, op := Op.load 30 (Operand.tmp 48), type := 30, pos := "policy.go:82", after := #[{ on := 3, ground := Ground.data }], guard := none }) (v := ?vq3R) rfl (by as_aux_lemma => kernel_rfl) (by as_aux_lemma => kernel_rfl) (by as_aux_lemma => kernel_rfl) (fun _ _ _ h => h) (Or.inl ⟨by rfl, ?yq3R⟩) (by assumption) ?rq3R
          case yq3R => (intro w hSw; (try dsimp only at hSw); have kq := rl_target HS.out.2.1.1 hSw.range; rw [Nat.zero_add] at kq; have kp := rl_entry HS.out.2.1.1 hSw.range; rw [Nat.zero_add] at kp; go_simp <;> with_reducible rfl)
          simp only [Act.put, List.setIfInBounds_toArray, List.set_cons_zero, List.set_cons_succ]
          refine wpAnyH_take (i := 6) (oi := { dst := some 51, op := Op.fieldAddr 74 (Operand.tmp 9) 2, type := 0, pos := "policy.go:82", after := #[], guard := none }) (v := ?vq4R) rfl (by as_aux_lemma => kernel_rfl) (by as_aux_lemma => kernel_rfl) (by as_aux_lemma => kernel_rfl) (fun _ _ _ h => h) (Or.inl ⟨by rfl, ?yq4R⟩) (by assumption) ?rq4R
          case yq4R => (intro w hSw; (try dsimp only at hSw); have kq := rl_target HS.out.2.1.1 hSw.range; rw [Nat.zero_add] at kq; have kp := rl_entry HS.out.2.1.1 hSw.range; rw [Nat.zero_add] at kp; go_simp <;> with_reducible rfl)
          simp only [Act.put, List.setIfInBounds_toArray, List.set_cons_zero, List.set_cons_succ]
          refine wpAnyH_take (i := 7) (oi := { dst := some 52, op := Op.load 23 (Operand.tmp 51), type := 23, pos := "policy.go:82", after := #[{ on := 6, ground := Ground.data }], guard := none }) (v := ?vq5R) rfl (by as_aux_lemma => kernel_rfl) (by as_aux_lemma => kernel_rfl) (by as_aux_lemma => kernel_rfl) (fun _ _ _ h => h) (Or.inl ⟨by rfl, ?yq5R⟩) (by assumption) ?rq5R
          case yq5R => (intro w hSw; (try dsimp only at hSw); have kq := rl_target HS.out.2.1.1 hSw.range; rw [Nat.zero_add] at kq; have kp := rl_entry HS.out.2.1.1 hSw.range; rw [Nat.zero_add] at kp; go_simp <;> with_reducible rfl)
          simp only [Act.put, List.setIfInBounds_toArray, List.set_cons_zero, List.set_cons_succ]
          refine wpAnyH_ready (rs := [2]) (by as_aux_lemma => kernel_rfl) (by simp) ?_
          refine AllReadyH.cons (o := { dst := some 47, op := Op.call { callee := Callee.value (Operand.func 28), args := #[Operand.tmp 46], argTypes := #[29] }, type := 9, pos := "policy.go:82", after := #[{ on := 1, ground := Ground.data }], guard := none }) rfl (fun K hK => ?_) (by exact AllReadyH.nil)
          rw [if_pos (by rfl)]
          go_simp
          (go_at_call 28; refine (nname_any c.1 HS.out.2.1.1 _).mono ?_; rintro e wz ⟨rfl, hz⟩)
          replace HC := Lib.hid (HC.out.trans (hz.mono HC.out.size))
          clear hz
          refine hK.out _ _ (by (try dsimp only); (first | exact H6.out.1.keep HC.out | exact (H6.out.1.keep HC.out).alloc _ | exact HQ9.out)) (fun hHeld => ?_)
          clear hK K
          simp only [List.setIfInBounds_toArray, List.set_cons_zero, List.set_cons_succ]
          refine wpAnyH_ready (rs := [5]) (by as_aux_lemma => kernel_rfl) (by simp) ?_
          refine AllReadyH.cons (o := { dst := some 50, op := Op.call { callee := Callee.value (Operand.func 51), args := #[Operand.tmp 49], argTypes := #[30] }, type := 9, pos := "policy.go:82", after := #[{ on := 4, ground := Ground.data }, { on := 2, ground := Ground.chain }], guard := none }) rfl (fun K hK => ?_) (by exact AllReadyH.nil)
          rw [if_pos (by rfl)]
          go_simp
          (go_at_call 51; refine (HM.out c.2.1 HS.out.2.1.2.1 _ (H6.out.2.2.1.trans (HC.out.mono H6.out.2.2.1.size))).mono ?_; rintro e wv ⟨rfl, hz⟩)
          replace HC := Lib.hid (HC.out.trans (hz.mono HC.out.size))
          clear hz
          refine hK.out _ _ (by (try dsimp only); (first | exact H6.out.1.keep HC.out | exact (H6.out.1.keep HC.out).alloc _ | exact HQ9.out)) (fun hHeld => ?_)
          clear hK K
          simp only [List.setIfInBounds_toArray, List.set_cons_zero, List.set_cons_succ]
          refine wpAnyH_ready (rs := [8]) (by as_aux_lemma => kernel_rfl) (by simp) ?_
          refine AllReadyH.cons (o := { dst := some 53, op := Op.call { callee := Callee.value (Operand.func 50), args := #[Operand.tmp 52], argTypes := #[23] }, type := 9, pos := "policy.go:82", after := #[{ on := 7, ground := Ground.data }, { on := 5, ground := Ground.chain }], guard := none }) rfl (fun K hK => ?_) (by exact AllReadyH.nil)
          rw [if_pos (by rfl)]
          go_simp
          (go_at_call 50; refine (HL.out c.2.2 HS.out.2.1.2.2 _ (H6.out.2.2.1.trans (HC.out.mono H6.out.2.2.1.size))).mono ?_; rintro e wy ⟨rfl, hz⟩)
          replace HC := Lib.hid (HC.out.trans (hz.mono HC.out.size))
          clear hz
          refine hK.out _ _ (by (try dsimp only); (first | exact H6.out.1.keep HC.out | exact (H6.out.1.keep HC.out).alloc _ | exact HQ9.out)) (fun hHeld => ?_)
          clear hK K
          simp only [List.setIfInBounds_toArray, List.set_cons_zero, List.set_cons_succ]
          refine wpAnyH_ready (rs := [9]) (by as_aux_lemma => kernel_rfl) (by simp) ?_
          refine AllReadyH.cons (o := { dst := some 54, op := Op.buildSlice 45 4 #[(0, Operand.const (Value.string { data := #[114, 101, 108, 101, 97, 115, 101] })), (1, Operand.tmp 47), (2, Operand.tmp 50), (3, Operand.tmp 53)], type := 45, pos := "policy.go:82", after := #[{ on := 2, ground := Ground.data }, { on := 5, ground := Ground.data }, { on := 8, ground := Ground.data }], guard := none }) rfl (fun K hK => ?_) (by exact AllReadyH.nil)
          rw [if_pos (by rfl)]
          go_simp
          refine hK.out _ _ (by (try dsimp only); (first | exact H6.out.1.keep HC.out | exact (H6.out.1.keep HC.out).alloc _ | exact HQ9.out)) (fun hHeld => ?_)
          clear hK K
          simp only [List.setIfInBounds_toArray, List.set_cons_zero, List.set_cons_succ]
          refine wpAnyH_ready (rs := [10]) (by as_aux_lemma => kernel_rfl) (by simp) ?_
          refine AllReadyH.cons (o := { dst := some 55, op := Op.call { callee := Callee.value (Operand.func 49), args := #[Operand.tmp 54], argTypes := #[45] }, type := 9, pos := "policy.go:82", after := #[{ on := 9, ground := Ground.data }, { on := 8, ground := Ground.chain }], guard := none }) rfl (fun K hK => ?_) (by exact AllReadyH.nil)
          rw [if_pos (by rfl)]
          go_simp
          (go_at_call 49; refine (line4 [114, 101, 108, 101, 97, 115, 101] (nmL c.1) (Lib.decDigits c.2.1) (txL c.2.2) _ (by have := txL_len c.2.2; have h2 := nmL_len c.1; have := decDigits_len HS.out.2.1.2.1; rw [HS.out.2.1.1.1] at h2; simp; omega)).mono ?_; rintro e wx ⟨rfl, hz⟩)
          replace HC := Lib.hid ((balloc HC.out (.cells #[.string ⟨[114, 101, 108, 101, 97, 115, 101].toArray⟩, .string ⟨(nmL c.1).toArray⟩, .string ⟨(Lib.decDigits c.2.1).toArray⟩, .string ⟨(txL c.2.2).toArray⟩] 9)).trans (hz.mono (Nat.le_trans HC.out.size (Nat.le_succ _))))
          clear hz
          refine hK.out _ _ (by (try dsimp only); (first | exact H6.out.1.keep HC.out | exact (H6.out.1.keep HC.out).alloc _ | exact HQ9.out)) (fun hHeld => ?_)
          clear hK K
          simp only [List.setIfInBounds_toArray, List.set_cons_zero, List.set_cons_succ]
          refine wpAnyH_ready (rs := [11]) (by as_aux_lemma => kernel_rfl) (by simp) ?_
          refine AllReadyH.cons (o := { dst := some 56, op := Op.call { callee := Callee.value (Operand.func 48), args := #[Operand.tmp 5, Operand.tmp 55], argTypes := #[88, 9] }, type := 91, pos := "policy.go:82", after := #[{ on := 10, ground := Ground.data }, { on := 10, ground := Ground.chain }], guard := none }) rfl (fun K hK => ?_) (by exact AllReadyH.nil)
          rw [if_pos (by rfl)]
          go_simp
          (go_at_call 48; refine (ws_kept B (B + 1) (accR d cs rs j) ⟨(endL (lnR c)).toArray⟩ wx (H6.out.2.1.below HC.out) (Nat.lt_succ_self _) (HSZ.out.1 _ HC.out) HSZ.out.2.1).mono ?_; rintro e w9 ⟨rfl, h9, k9, q9⟩)
          have HQ9 := Lib.hid (q9 _ _ _ (by decide) HSZ.out.2.2 (H6.out.1.keep HC.out))
          have HK9 := Lib.hid (And.intro h9.bu k9)
          clear h9 k9 q9
          refine hK.out _ _ (by (try dsimp only); (first | exact H6.out.1.keep HC.out | exact (H6.out.1.keep HC.out).alloc _ | exact HQ9.out)) (fun hHeld => ?_)
          clear hK K
          simp only [List.setIfInBounds_toArray, List.set_cons_zero, List.set_cons_succ]
          refine wpAnyH_done (by as_aux_lemma => kernel_rfl) ?_ _
          clear hHeld
          go_wp2_with fail
          exact ⟨⟨j + 1, by omega, congrArg (Value.int .i64) (by omega), by rw [← accR_step d cs rs j c HB.out.2.2.2]; exact HK9.out.1, ((HB.out.2.1.below H6.out.2.2.2 (HB.out.2.1.1.size |> fun h => by have := H2.out.2.2.1; omega)).below HC.out (by have := H6.out.2.2.2.size; have := HB.out.2.1.1.size; have := H2.out.2.2.1; omega)).trans HK9.out.2⟩, by simp [intOf]; omega⟩
        · obtain rfl : n2 = j := by omega
          have hE : accR d cs rs n2 = txP d cs rs := by rw [← HN.out.2]; exact accR_all d cs rs
          rw [hE] at hBu
          have HB2 := Lib.hid (And.intro hBu hKp)
          clear hBu hKp hXw hE
          go_wp2_with (first | (go_at_call 52; refine (bs_any B (B + 1) (txP d cs rs) wr HB2.out.1 (Nat.le_succ _)).mono ?_; rintro e wf ⟨rfl, hf, _⟩; have HF := Lib.hid hf; clear hf) | fail)
          go_ret2
          exact ⟨rfl, H0.out.1.trans ((H2.out.2.1.trans ((HB2.out.2.1.trans HF.out).mono H2.out.2.2.2)).mono H0.out.1.size)⟩

end Go.Proofs.YtenepkgjdoddgaaGreatDoor
