/- digest: Word, the reference's Word; Sum of bytes that are cut. -/
import Derived.Test.YtfknfopdinkmkaaHj
import Derived.Test.YtfknfopdinkmkaaPb
namespace Go.Proofs.Ytfknfopdinkmkaa
open Go.RowKit Go.Shelf

theorem stN_congr {N N' : Nat} {g g' : Nat → Nat} (h : ∀ i, pdB N g i = pdB N' g' i) : ∀ k, stN N g k = stN N' g' k
  | 0 => rfl
  | k + 1 => by
    show tnP (xoF (stN N g k) (blP (fun p => pdB N g (136 * k + p)) 136) 17) 24 = tnP (xoF (stN N' g' k) (blP (fun p => pdB N' g' (136 * k + p)) 136) 17) 24
    rw [stN_congr h k, show (fun p => pdB N g (136 * k + p)) = (fun p => pdB N' g' (136 * k + p)) from funext fun p => h _]
theorem xoF_on {f g h : Nat → Ln} (k : Nat) (hf : EqOn f g) : EqOn (xoF f h k) (xoF g h k) := fun i hi => by unfold xoF; rw [hf i hi]
theorem st_rs (N : Nat) (g : Nat → Nat) : ∀ k, EqOn (stN N g k) (rsN N g k)
  | 0 => EqOn.refl _
  | k + 1 => by
    show EqOn (tnP (xoF (stN N g k) (blP (fun p => pdB N g (136 * k + p)) 136) 17) 24) (rnds (xoF (rsN N g k) (blP (fun p => pdB N g (136 * k + p)) 136) 17) 24)
    exact (tnP_on _ 24).trans (rnds_on (xoF_on 17 (st_rs N g k)) 24)
theorem dg_on {f g : Nat → Ln} (h : EqOn f g) : numB (dgB f) 32 = numB (dgB g) 32 := numB_congr _ _ 32 fun k hk => by unfold dgB; rw [h (k / 8) (by omega)]
/-- The digest. -/
def dgst (n : Nat) (f : Nat → Nat) : Nat := numB (dgB (rsN n f (n / 136 + 1))) 32
theorem dgst_of {ls : List Sl} {n : Nat} {f : Nat → Nat} (ht : tot ls = n) (hj : ∀ i, i < n → jn ls i = f i) : numB (dgB (stN (tot ls) (jn ls) (tot ls / 136 + 1))) 32 = dgst n f := by
  unfold dgst
  rw [ht, stN_congr (N' := n) (g' := f) (fun i => by
    unfold pdB
    by_cases h : i < n
    · rw [if_pos h, if_pos h, hj i h]
    · rw [if_neg h, if_neg h]) (n / 136 + 1)]
  exact dg_on (st_rs n f _)
theorem tot_cons (s : Sl) (t : List Sl) : tot (s :: t) = s.n + tot t := rfl
theorem tot_nil : tot [] = 0 := rfl
theorem jn_cons (s : Sl) (t : List Sl) (p : Nat) : jn (s :: t) p = if p < s.n then s.f p else jn t (p - s.n) := rfl
/-- A slice's first bytes, and the others. -/
theorem SlAt.to {X : World} {x : Option Addr} {n cap c : Nat} {f : Nat → Nat} (h : SlAt X ⟨.slice x n cap, n, f⟩) (hc : c ≤ n) : SlAt X ⟨.slice x c cap, c, f⟩ := by
  obtain ⟨x', cap', h1, h2, h3, h4⟩ := h
  cases h1
  exact ⟨x, cap, rfl, Nat.le_trans hc h2, h3, fun h0 => by obtain ⟨b, o, e, hb, hh⟩ := h4 (show 0 < n from Nat.lt_of_lt_of_le h0 hc); exact ⟨b, o, e, hb, fun k hk => hh k (Nat.lt_of_lt_of_le hk hc)⟩⟩
theorem SlAt.from {X : World} {x y : Option Addr} {n cap c cap2 : Nat} {f : Nat → Nat} (h : SlAt X ⟨.slice x n cap, n, f⟩) (hc : c ≤ n) (hy : c < n → ∀ b o, x = some ⟨b, o, none⟩ → y = some ⟨b, o + c, none⟩) (h2 : n - c ≤ cap2) (h3 : cap2 ≤ 9223372036854775807) : SlAt X ⟨.slice y (n - c) cap2, n - c, fun k => f (c + k)⟩ := by
  obtain ⟨x', cap', h1, _, _, h4⟩ := h
  cases h1
  refine ⟨y, cap2, rfl, h2, h3, fun h0 => ?_⟩
  have h0' : 0 < n - c := h0
  obtain ⟨b, o, e, hb, hh⟩ := h4 (show 0 < n by omega)
  refine ⟨b, o + c, hy (by omega) b o e, hb, fun k hk => ?_⟩
  have hk' : k < n - c := hk
  have h5 := hh (c + k) (show c + k < n by omega)
  exact ⟨h5.1, by rw [show o + c + k = o + (c + k) by omega]; exact h5.2⟩
theorem sl_nil (X : World) : SlAt X ⟨.slice none 0 0, 0, fun _ => 0⟩ := ⟨none, 0, rfl, Nat.le_refl _, by omega, fun h => by simp at h⟩
theorem SlAt.below {X Y : World} {s : Sl} (h : SlAt X s) (k : Below X.heap.size X Y) : SlAt Y s := (SlB.new (B := X.heap.size) h k).at k.size
/-- Slices laid out, as a slice. -/
theorem ls_new {X : World} (ls : List Sl) (h : ∀ s, s ∈ ls → SlAt X s) : LsAt (X.alloc (.cells (ls.map (·.v)).toArray 22)) (some ⟨X.heap.size, 0, none⟩) ls := fun i s hs => by
  refine ⟨SlAt.below (h s (List.mem_of_getElem? hs)) (balloc (Below.refl _ _) _), _, _, rfl, by simp, ?_⟩
  rw [Nat.zero_add, cell_of_row _ _ i _ _ _ (Blk.new X 22 (ls.map (·.v)).toArray)]
  simp [hs]
/-- Sum of slices laid out anew. -/
theorem sum_new (ls : List Sl) (n : Nat) (f : Nat → Nat) (hn : n ≤ 1000000) (hls : ls.length ≤ 1000) (ht : tot ls = n) (hj : ∀ i, i < n → jn ls i = f i) (X : World) (h : ∀ s, s ∈ ls → SlAt X s) :
    Calls Try.prog 7 #[.slice (some ⟨X.heap.size, 0, none⟩) ls.length ls.length] (X.alloc (.cells (ls.map (·.v)).toArray 22)) fun e w' => e = .returned (.agg (byC (dgst n f) 32)) ∧ Below (X.alloc (.cells (ls.map (·.v)).toArray 22)).heap.size (X.alloc (.cells (ls.map (·.v)).toArray 22)) w' := by
  have h := Sum_any ls (some ⟨X.heap.size, 0, none⟩) ls.length (by omega) (by omega) _ (ls_new ls h)
  rw [dgst_of ht hj] at h
  exact h
theorem sum_one (x : Option Addr) (n cap : Nat) (f : Nat → Nat) (hn : n ≤ 1000000) (X : World) (hs : SlAt X ⟨.slice x n cap, n, f⟩) :
    Calls Try.prog 7 #[.slice (some ⟨X.heap.size, 0, none⟩) 1 1] (X.alloc (.cells #[.slice x n cap] 22)) fun e w' => e = .returned (.agg (byC (dgst n f) 32)) ∧ Below (X.alloc (.cells #[.slice x n cap] 22)).heap.size (X.alloc (.cells #[.slice x n cap] 22)) w' := by
  have ht : tot [(⟨.slice x n cap, n, f⟩ : Sl)] = n := by rw [tot_cons, tot_nil]; rfl
  have hj : ∀ i, i < n → jn [(⟨.slice x n cap, n, f⟩ : Sl)] i = f i := fun i hi => by rw [jn_cons]; exact if_pos hi
  exact sum_new [⟨.slice x n cap, n, f⟩] n f hn (by show 1 ≤ 1000; omega) ht hj X (fun s hm => by rw [List.mem_singleton.1 hm]; exact hs)
theorem sum_two (x y : Option Addr) (n cap c cap2 : Nat) (f : Nat → Nat) (hn : n ≤ 1000000) (hc : c ≤ n) (X : World) (h1 : SlAt X ⟨.slice x c cap, c, f⟩) (h2 : SlAt X ⟨.slice y (n - c) cap2, n - c, fun k => f (c + k)⟩) :
    Calls Try.prog 7 #[.slice (some ⟨X.heap.size, 0, none⟩) 2 2] (X.alloc (.cells #[.slice x c cap, .slice y (n - c) cap2] 22)) fun e w' => e = .returned (.agg (byC (dgst n f) 32)) ∧ Below (X.alloc (.cells #[.slice x c cap, .slice y (n - c) cap2] 22)).heap.size (X.alloc (.cells #[.slice x c cap, .slice y (n - c) cap2] 22)) w' := by
  have ht : tot [(⟨.slice x c cap, c, f⟩ : Sl), ⟨.slice y (n - c) cap2, n - c, fun k => f (c + k)⟩] = n := by rw [tot_cons, tot_cons, tot_nil]; show c + (n - c + 0) = n; omega
  have hj : ∀ i, i < n → jn [(⟨.slice x c cap, c, f⟩ : Sl), ⟨.slice y (n - c) cap2, n - c, fun k => f (c + k)⟩] i = f i := fun i hi => by
    rw [jn_cons, jn_cons]
    show (if i < c then f i else if i - c < n - c then f (c + (i - c)) else _) = f i
    by_cases h : i < c
    · rw [if_pos h]
    · rw [if_neg h, if_pos (by omega), show c + (i - c) = i by omega]
  exact sum_new [⟨.slice x c cap, c, f⟩, ⟨.slice y (n - c) cap2, n - c, fun k => f (c + k)⟩] n f hn (by show 2 ≤ 1000; omega) ht hj X (fun s hm => by
    rcases List.mem_cons.1 hm with rfl | hm
    · exact h1
    · rw [List.mem_singleton.1 hm]; exact h2)
theorem sum_four (x y : Option Addr) (n cap c cap2 : Nat) (f : Nat → Nat) (hn : n ≤ 1000000) (hc : c ≤ n) (X : World) (h1 : SlAt X ⟨.slice x c cap, c, f⟩) (h2 : SlAt X ⟨.slice y (n - c) cap2, n - c, fun k => f (c + k)⟩) :
    Calls Try.prog 7 #[.slice (some ⟨X.heap.size, 0, none⟩) 4 4] (X.alloc (.cells #[.slice none 0 0, .slice x c cap, .slice none 0 0, .slice y (n - c) cap2] 22)) fun e w' => e = .returned (.agg (byC (dgst n f) 32)) ∧ Below (X.alloc (.cells #[.slice none 0 0, .slice x c cap, .slice none 0 0, .slice y (n - c) cap2] 22)).heap.size (X.alloc (.cells #[.slice none 0 0, .slice x c cap, .slice none 0 0, .slice y (n - c) cap2] 22)) w' := by
  have ht : tot [(⟨.slice none 0 0, 0, fun _ => 0⟩ : Sl), ⟨.slice x c cap, c, f⟩, ⟨.slice none 0 0, 0, fun _ => 0⟩, ⟨.slice y (n - c) cap2, n - c, fun k => f (c + k)⟩] = n := by rw [tot_cons, tot_cons, tot_cons, tot_cons, tot_nil]; show 0 + (c + (0 + (n - c + 0))) = n; omega
  have hj : ∀ i, i < n → jn [(⟨.slice none 0 0, 0, fun _ => 0⟩ : Sl), ⟨.slice x c cap, c, f⟩, ⟨.slice none 0 0, 0, fun _ => 0⟩, ⟨.slice y (n - c) cap2, n - c, fun k => f (c + k)⟩] i = f i := fun i hi => by
    rw [jn_cons, jn_cons, jn_cons, jn_cons]
    show (if i < 0 then 0 else if i - 0 < c then f (i - 0) else if i - 0 - c < 0 then 0 else if i - 0 - c - 0 < n - c then f (c + (i - 0 - c - 0)) else _) = f i
    rw [if_neg (by omega)]
    by_cases h : i < c
    · rw [if_pos (by omega), Nat.sub_zero]
    · rw [if_neg (by omega), if_neg (by omega), if_pos (by omega), show c + (i - 0 - c - 0) = i by omega]
  exact sum_new [⟨.slice none 0 0, 0, fun _ => 0⟩, ⟨.slice x c cap, c, f⟩, ⟨.slice none 0 0, 0, fun _ => 0⟩, ⟨.slice y (n - c) cap2, n - c, fun k => f (c + k)⟩] n f hn (by show 4 ≤ 1000; omega) ht hj X (fun s hm => by
    rcases List.mem_cons.1 hm with rfl | hm
    · exact sl_nil X
    rcases List.mem_cons.1 hm with rfl | hm
    · exact h1
    rcases List.mem_cons.1 hm with rfl | hm
    · exact sl_nil X
    · rw [List.mem_singleton.1 hm]; exact h2)
theorem read_back' (a b : Nat) (t : TypeId) (w : World) (hb : Blk w b t (byC a 32)) :
    Calls Try.prog 21 #[.slice (some ⟨b, 0, none⟩) 32 32] w fun e w' => e = .returned (.tuple #[W a, .int .i64 0]) ∧ Below w.heap.size w w' := by
  have h := read_any b 0 32 32 (fun k => byA a (31 - k)) w (by omega) hb.lt (fun k hk => ⟨byA_lt _ _, (cell_of_row w b _ _ _ _ hb).trans (by rw [Nat.zero_add, byC_get _ _ _ hk, if_pos (by omega)])⟩)
  rwa [numB_by a 32 (by omega), W_congr (x := a / 256 ^ (32 - 32) % 256 ^ 32) (y := a) (by rw [Nat.sub_self, Nat.pow_zero, Nat.div_one, ← MM_256, Nat.mod_mod])] at h
theorem grown_set4 (X : World) (g : Nat) (v0 v1 v2 v3 : Value) : X.grownBy ((((X.setCell ⟨g, 0, none⟩ v0).setCell ⟨g, 1, none⟩ v1).setCell ⟨g, 2, none⟩ v2).setCell ⟨g, 3, none⟩ v3) (some g) :=
  grown_set' (grown_set' (grown_set' (grown_set' (grown_refl X g) 0 v0) 1 v1) 2 v2) 3 v3
theorem rsum_dg (x : Option Addr) (n cap : Nat) (f : Nat → Nat) (hn : n ≤ 1000000) (w : World)
    (hv : (Value.slice x n cap = .slice none 0 0 ∧ n = 0) ∨ ∃ a c, Value.slice x n cap = .slice (some a) n c) (hs : SlAt w ⟨.slice x n cap, n, f⟩) :
    Calls Try.prog 6 #[.slice x n cap] w fun e w' => e = .returned (.agg (byC (dgst n f) 32)) ∧ Below w.heap.size w w' := rsum_any x n cap f hn w hv hs
attribute [local irreducible] lb
attribute [local irreducible] Fc Bc jn tot pdB pq pqC blP bkL ln rot stN tnP rsN rnds dgst
set_option maxRecDepth 100000 in
set_option maxHeartbeats 4000000 in
theorem dword_any (x : Option Addr) (n cap : Nat) (f : Nat → Nat) (hn : n ≤ 1000000) (w : World) (hs : SlAt w ⟨.slice x n cap, n, f⟩) :
    Calls Try.prog 8 #[.slice x n cap] w fun e w' => e = .returned (W (dgst n f)) ∧ Below w.heap.size w w' := by
  have HS := Lib.hid (fun X (h : Below w.heap.size w X) => sum_one x n cap f hn X (SlAt.below hs h))
  have hR := Blk.new w 29 #[.int .u64 0, .int .u64 0, .int .u64 0, .int .u64 0]
  have hW := balloc (Below.refl w.heap.size w) (.cells #[.int .u64 0, .int .u64 0, .int .u64 0, .int .u64 0] 29)
  have HX := Lib.hid (And.intro hR hW)
  clear hs hn hR hW
  have hc := HS.out _ HX.out.2
  rw [World.size_alloc] at hc
  have HC := Lib.hid hc
  clear hc HS
  go_enter Try.func8, Try.ntmps8
  go_wp2_with fail
  refine HC.out.mono ?_
  rintro e w1 ⟨rfl, h1⟩
  rename_i K hK
  refine hK _ _ ?_
  clear hK K HC
  obtain ⟨d, hd⟩ : ∃ d, dgst n f = d := ⟨_, rfl⟩
  rw [hd]
  have HD := Lib.hid hd
  refine wpList_plain rfl fun K hK => ?_
  go_simp
  refine hK _ _ ?_
  clear hK K hd
  rw [← byC_zero 0]
  refine wpList_store_row rfl 24 (.tmp 3) (.tmp 8) rfl w1.heap.size (byC d 32) rfl rfl 24 (byC 0 0) (Blk.new w1 _ _) (by rw [byC_size]; kernel_rfl) (by rw [byC_size, byC_size]) (byC_one _ _) (wpList_nil ?_)
  rw [World.setRow_alloc_new]
  have hDD := Blk.new w1 24 (byC d 32)
  have h1' := bstep (balloc (Below.refl (w.alloc (.cells #[.int .u64 0, .int .u64 0, .int .u64 0, .int .u64 0] 29)).heap.size _) (.cells #[.slice x n cap] 22)) h1
  have hR := (HX.out.1.keep h1').alloc (.cells (byC d 32) 24)
  have hW := balloc (bstep HX.out.2 h1') (.cells (byC d 32) 24)
  obtain ⟨w2, hw2⟩ : ∃ w2, w1.alloc (.cells (byC d 32) 24) = w2 := ⟨_, rfl⟩
  rw [hw2] at hDD hR hW ⊢
  clear hw2 HX h1 h1'
  generalize w1.heap.size = gd at hDD ⊢
  have hsa : ∀ w, (Instr.sliceAt 24 (.pointer (some ⟨gd, 0, none⟩)) none none none).run Try.prog w = .ok (.slice (some ⟨gd, 0, none⟩) 32 32) w := fun w => by kernel_rfl
  have HX := Lib.hid (And.intro hR hW)
  have HRB := Lib.hid (read_back' d gd _ w2 hDD)
  clear hDD hR hW
  go_wp2_with fail
  refine HRB.out.mono ?_
  rintro e w3 ⟨rfl, h3⟩
  have hR := (HX.out.1.keep h3).alloc (.cells (Wc d) 29)
  have hW := balloc (bstep HX.out.2 h3) (.cells (Wc d) 29)
  have h4 := Blk.new w3 29 (Wc d)
  clear HX HRB h3 hsa
  go_upto_region 3 with fail
  obtain ⟨w4, hw4⟩ : ∃ w4, w3.alloc (.cells (Wc d) 29) = w4 := ⟨_, rfl⟩
  rw [hw4] at hR hW h4 ⊢
  clear hw4
  generalize w3.heap.size = g4 at h4 ⊢
  have c0 := (cell_of_row _ _ 0 _ _ _ h4).trans (wc_get d 0 (by omega))
  have c1 := (cell_of_row _ _ 1 _ _ _ h4).trans (wc_get d 1 (by omega))
  have c2 := (cell_of_row _ _ 2 _ _ _ h4).trans (wc_get d 2 (by omega))
  have c3 := (cell_of_row _ _ 3 _ _ _ h4).trans (wc_get d 3 (by omega))
  have f0 := frozen_of_row _ _ 0 _ _ hR
  have f1 := frozen_of_row _ _ 1 _ _ hR
  have f2 := frozen_of_row _ _ 2 _ _ hR
  have f3 := frozen_of_row _ _ 3 _ _ hR
  have r0 := cell_of_row _ _ 0 _ _ _ hR
  have r1 := cell_of_row _ _ 1 _ _ _ hR
  have r2 := cell_of_row _ _ 2 _ _ _ hR
  have r3 := cell_of_row _ _ 3 _ _ _ hR
  have hG := grown_set4 w4 (w.heap.size) (.int .u64 (lb (d) 0)) (.int .u64 (lb (d) 1)) (.int .u64 (lb (d) 2)) (.int .u64 (lb (d) 3))
  have HE := Lib.hid (step_world hW hG (Nat.le_refl _) (by omega))
  clear hR hW h4 hG
  go_wp2_with fail
  exact bodyPost_ret (v := W d) (by simp [results, Try.results8, go_sem, r0, r1, r2, r3]) rfl ⟨by rw [HD.out], HE.out⟩

set_option maxRecDepth 100000 in
set_option maxHeartbeats 4000000 in
theorem rdword_any (x : Option Addr) (n cap : Nat) (f : Nat → Nat) (hn : n ≤ 1000000) (w : World)
    (hv : (Value.slice x n cap = .slice none 0 0 ∧ n = 0) ∨ ∃ a c, Value.slice x n cap = .slice (some a) n c) (hs : SlAt w ⟨.slice x n cap, n, f⟩) :
    Calls Try.prog 9 #[.slice x n cap] w fun e w' => e = .returned (W (dgst n f)) ∧ Below w.heap.size w w' := by
  have hR := Blk.new w 29 #[.int .u64 0, .int .u64 0, .int .u64 0, .int .u64 0]
  have hW := balloc (Below.refl w.heap.size w) (.cells #[.int .u64 0, .int .u64 0, .int .u64 0, .int .u64 0] 29)
  have HC := Lib.hid (show Calls Try.prog 6 #[.slice x n cap] (w.alloc (.cells #[.int .u64 0, .int .u64 0, .int .u64 0, .int .u64 0] 29)) (fun e w' => e = .returned (.agg (byC (dgst n f) 32)) ∧ Below (w.alloc (.cells #[.int .u64 0, .int .u64 0, .int .u64 0, .int .u64 0] 29)).heap.size (w.alloc (.cells #[.int .u64 0, .int .u64 0, .int .u64 0, .int .u64 0] 29)) w') from rsum_dg x n cap f hn _ hv (SlAt.below hs hW))
  have HX := Lib.hid (And.intro hR hW)
  clear hs hn hR hW hv
  obtain ⟨d, hd⟩ : ∃ d, dgst n f = d := ⟨_, rfl⟩
  rw [hd] at HC ⊢
  clear hd
  go_enter Try.func9, Try.ntmps9
  go_wp2_with fail
  refine HC.out.mono ?_
  rintro e w1 ⟨rfl, h1⟩
  have hR := HX.out.1.keep h1
  have hW := bstep HX.out.2 h1
  clear HX HC h1
  have HY := Lib.hid (And.intro hR hW)
  clear hR hW
  go_wp2_with fail
  refine (rfrom_any d _).mono ?_
  rintro e w2 ⟨rfl, h2⟩
  have hR := HY.out.1.keep h2
  have hW := bstep HY.out.2 h2
  clear HY h2
  have f0 := frozen_of_row _ _ 0 _ _ hR
  have f1 := frozen_of_row _ _ 1 _ _ hR
  have f2 := frozen_of_row _ _ 2 _ _ hR
  have f3 := frozen_of_row _ _ 3 _ _ hR
  have r0 := cell_of_row _ _ 0 _ _ _ hR
  have r1 := cell_of_row _ _ 1 _ _ _ hR
  have r2 := cell_of_row _ _ 2 _ _ _ hR
  have r3 := cell_of_row _ _ 3 _ _ _ hR
  have hG := grown_set4 w2 (w.heap.size) (.int .u64 (lb (d) 0)) (.int .u64 (lb (d) 1)) (.int .u64 (lb (d) 2)) (.int .u64 (lb (d) 3))
  have HE := Lib.hid (step_world hW hG (Nat.le_refl _) (by omega))
  clear hR hW hG
  go_wp2_with fail
  exact bodyPost_ret (v := W d) (by simp [results, Try.results9, go_sem, r0, r1, r2, r3]) rfl ⟨rfl, HE.out⟩
end Go.Proofs.Ytfknfopdinkmkaa
