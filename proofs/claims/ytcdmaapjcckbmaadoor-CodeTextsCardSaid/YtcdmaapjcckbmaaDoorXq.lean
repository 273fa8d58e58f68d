/- code: the bytes of an op; Push, Mark. -/
import Derived.Test.YtcdmaapjcckbmaaDoorXp
import Derived.Test.YtcdmaapjcckbmaaDoorWy
import Derived.Test.YtcdmaapjcckbmaaDoorVa
import Derived.Laws.CopyOwn
import Derived.Laws.ResultCell
namespace Go.Proofs.YtcdmaapjcckbmaaDoor
open Go.RowKit Go.Shelf

/-- The number of bytes. -/
def nuL (l : List Nat) : Nat := numB (fun k => l.getD k 0) l.length
set_option maxRecDepth 100000 in
set_option maxHeartbeats 2000000 in
theorem read_empty (x : Option Addr) (c : Nat) (w : World) :
    Calls Tryd.prog 42 #[.slice x 0 c] w fun e w' => e = .returned (.tuple #[W 0, .int .i64 0]) ∧ Below w.heap.size w w' := by
  rw [W_zero]
  go_enter Tryd.func42, Tryd.ntmps42
  go_wp2
  refine wp_loop_rounds 1 ?_
  rw [rounds_succ]; go_wp2
  exact bodyPost_ret (v := .tuple #[.agg #[.int .u64 0, .int .u64 0, .int .u64 0, .int .u64 0], .int .i64 0]) (by simp [results, Tryd.results42, go_sem]) rfl ⟨rfl, balloc (balloc (Below.refl _ _) _) _⟩
theorem read_fitso (B : Nat) (v : Value) (l : List Nat) (w : World) (hv : Bto B w v l) (hl : l.length ≤ 32) :
    Calls Tryd.prog 42 #[v] w fun e w' => e = .returned (.tuple #[W (nuL l), .int .i64 0]) ∧ Below w.heap.size w w' := by
  obtain ⟨h1, x, c, rfl, _, h3, h5⟩ := hv
  by_cases h0 : l = []
  · subst h0
    exact read_empty x c w
  · obtain ⟨b, o, rfl, _, hb, hc⟩ := h5 h0
    · refine read_any b o l.length c (fun k => l.getD k 0) w hl hb (fun k hk => ?_)
      have hk2 : l[k]? = some (l.getD k 0) := by rw [List.getD_eq_getElem?_getD]; simp [hk]
      exact ⟨h1 _ (List.mem_of_getElem? hk2), hc k _ hk2⟩
theorem made_u8 (n : Nat) : madeCells (Value.int .u8 0).cells (n * 1) = (bvs (List.replicate n 0)).toArray := by
  apply Array.ext_getElem?
  intro i
  unfold madeCells bvs
  by_cases hi : i < n <;> simp [Value.cells, Nat.mod_one, hi]
theorem make_bytes (n : Nat) (hn : n ≤ 1000000) (w : World) : (Instr.makeSlice 32 (.int .i64 n) (.int .i64 n)).run Tryd.prog w = .ok (.slice (some ⟨w.heap.size, 0, none⟩) n n) (w.alloc (.cells (bvs (List.replicate n 0)).toArray 5)) := by
  obtain ⟨i, hi, hz, hs, hb⟩ := info_parts' infoU8
  have h := run_makeSlice (P := Tryd.prog) (w := w) 32 5 i (.int .u8 0) (by kernel_rfl) hi hz .i64 .i64 n n (by omega) (by omega) (by rw [hs]; omega) (by rw [hb]; omega) (by omega)
  rw [hs, Int.toNat_natCast, made_u8] at h
  exact h
theorem cutFrom (x : Option Addr) (m k c : Nat) (hk : k ≤ m) (w : World) : (Instr.slice 32 (.slice x m c) (some (.int .i64 (k : Nat))) none none).run Tryd.prog w = .ok (sliced x k m c 1) w := by
  have h := run_slice_l (P := Tryd.prog) (w := w) (t := 32) (a := x) (len := m) (cap := c) (ht := by kernel_rfl) .i64 (k : Int) (by omega) (by omega)
  rw [h, show Tryd.prog.elem 32 = 5 by kernel_rfl, show (sizeOf 5).run Tryd.prog w = .ok 1 w by kernel_rfl]
  rfl

theorem cut_run (b o m k c : Nat) (hk : k ≤ m) (hm : m ≤ c) : ∃ y, (k < m → y = some ⟨b, o + k, none⟩) ∧ ∀ w : World, (Instr.slice 32 (.slice (some ⟨b, o, none⟩) m c) (some (.int .i64 (k : Nat))) none none).run Tryd.prog w = .ok (.slice y (m - k) (c - k)) w := by
  by_cases h : c = k
  · exact ⟨some ⟨b, o, none⟩, fun h2 => by omega, fun w => by rw [cutFrom _ m k c hk w]; unfold sliced; rw [if_pos h]⟩
  · exact ⟨some ⟨b, o + k, none⟩, fun _ => rfl, fun w => by rw [cutFrom _ m k c hk w]; unfold sliced; rw [if_neg h]; simp [Addr.add, Nat.mul_one]⟩
/-- The bytes behind an op that belong to it, noughts standing for those that the code lacks. -/
def bhL (l : List Nat) (p : Nat) : List Nat := (List.range (szO (l.getD p 0))).map fun i => l.getD (p + 1 + i) 0
theorem bhL_len (l : List Nat) (p : Nat) : (bhL l p).length = szO (l.getD p 0) := by unfold bhL; simp
theorem bhL_parts (l : List Nat) (p m : Nat) (hm : szO (l.getD p 0) = m) : bhL l p = (l.drop (p + 1)).take m ++ List.replicate (m - (l.length - (p + 1))) 0 := by
  unfold bhL
  rw [hm]
  apply List.ext_getElem?
  intro i
  by_cases hi : i < m
  · rw [List.getElem?_map, List.getElem?_range hi]
    simp only [Option.map_some]
    by_cases h2 : p + 1 + i < l.length
    · rw [List.getElem?_append_left (by simp; omega), List.getElem?_take_of_lt hi, List.getElem?_drop, List.getD_eq_getElem?_getD, List.getElem?_eq_getElem h2]
      rfl
    · rw [List.getElem?_append_right (by simp; omega), List.getElem?_replicate_of_lt (by simp; omega), List.getD_eq_getElem?_getD, List.getElem?_eq_none (by omega)]
      rfl
  · rw [List.getElem?_eq_none (by simp; omega), List.getElem?_eq_none (by simp; omega)]
theorem bhL_byte {l : List Nat} (h : ∀ x ∈ l, x < 256) (p : Nat) : ∀ x ∈ bhL l p, x < 256 := by
  intro x hx
  unfold bhL at hx
  obtain ⟨i, _, rfl⟩ := List.mem_map.1 hx
  rw [List.getD_eq_getElem?_getD]
  cases h2 : l[p + 1 + i]? with
  | none => simp
  | some y => exact h y (List.mem_of_getElem? h2)
theorem infoU1 : (Tryd.prog.info? 5).map (·.size) = some 1 := by kernel_rfl
theorem Bto.of_blk {X : World} {g : Nat} {l : List Nat} (h : Blk X g 5 (bvs l).toArray) (h1 : ∀ x ∈ l, x < 256) (hl : l.length ≤ 9223372036854775807) : Bto X.heap.size X (.slice (some ⟨g, 0, none⟩) l.length l.length) l :=
  ⟨h1, _, _, rfl, Nat.le_refl _, hl, fun _ => ⟨g, 0, rfl, h.lt, h.lt, fun k u hu => by
    rw [Nat.zero_add, cell_of_row _ _ k _ _ _ h, List.getElem?_toArray, bvs_get, hu]; rfl⟩⟩
theorem splice_bytes (l : List Nat) (p m : Nat) (hm : szO (l.getD p 0) = m) : ((bvs (List.replicate m 0)).toArray.toList.take 0 ++ ((bvs ((l.drop (p + 1)).take m)) ++ (bvs (List.replicate m 0)).toArray.toList.drop (0 + (bvs ((l.drop (p + 1)).take m)).length))).toArray = (bvs (bhL l p)).toArray := by
  rw [bhL_parts l p m hm, ← bvs_app]
  congr 1
  simp only [List.take_zero, List.nil_append, Nat.zero_add, bvs_len]
  congr 1
  unfold bvs
  rw [← List.map_drop, List.drop_replicate]
  congr 2
  simp
  omega

set_option maxRecDepth 100000 in
set_option maxHeartbeats 2000000 in
theorem behind_any (B : Nat) (v : Value) (l : List Nat) (p : Nat) (hl : l.length ≤ 1000) (hp : p < l.length) (w : World) (hv : Bto B w v l) : Calls Tryd.prog 43 #[v, .int .i64 p] w fun e w' => ∃ g, e = .returned (.slice (some ⟨g, 0, none⟩) (bhL l p).length (bhL l p).length) ∧ w.heap.size ≤ g ∧ Blk w' g 5 (bvs (bhL l p)).toArray ∧ Below w.heap.size w w' := by
  obtain ⟨h1, x0, c0, rfl, h3, h4, h5⟩ := hv
  obtain ⟨b, o, rfl, hbB, hbX, hc⟩ := h5 (by intro e; rw [e] at hp; simp at hp)
  obtain ⟨y, hy, hcut⟩ := cut_run b o l.length (p + 1) c0 (by omega) h3
  have hat : l[p]? = some (l.getD p 0) := by rw [List.getD_eq_getElem?_getD, List.getElem?_eq_getElem hp]; rfl
  have cz := hc _ _ hat
  have hz : l.getD p 0 < 256 := h1 _ (List.mem_of_getElem? hat)
  have hsz := szO_le (l.getD p 0)
  have HS := Lib.hid (fun w => size_any (l.getD p 0) hz w)
  have hmk := make_bytes (szO (l.getD p 0)) (by omega)
  have hpar := splice_bytes l p (szO (l.getD p 0)) rfl
  have hblen := bhL_len l p
  have hpI : (p : Int) < (l.length : Int) := by omega
  have hp0 : (0 : Int) ≤ (p : Int) := by omega
  have g1 : IntKind.i64.wrap ((p : Int) + 1) = ((p + 1 : Nat) : Int) := by rw [IntWalk.i64_in _ (by omega)]; omega
  have hcp : ∀ j v, (bvs ((l.drop (p + 1)).take (szO (l.getD p 0))))[j]? = some v → w.cell? ⟨b, o + (p + 1) + j, none⟩ = some v := fun j v hj => by
    rw [bvs_get] at hj
    by_cases hjm : j < szO (l.getD p 0)
    · rw [List.getElem?_take_of_lt hjm, List.getElem?_drop] at hj
      cases hu : l[p + 1 + j]? with
      | none => rw [hu] at hj; simp at hj
      | some u =>
        rw [hu] at hj
        simp at hj
        subst hj
        have := hc _ _ hu
        rwa [show o + (p + 1 + j) = o + (p + 1) + j by omega] at this
    · rw [List.getElem?_eq_none (by rw [List.length_take]; omega)] at hj
      simp at hj
  have hbl : ∀ x ∈ bhL l p, x < 256 := bhL_byte h1 p
  have hcl : (bvs ((l.drop (p + 1)).take (szO (l.getD p 0)))).length = min (l.length - (p + 1)) (szO (l.getD p 0)) := by rw [bvs_len]; simp; omega
  have HC := Lib.hid (And.intro hcp (And.intro hcl (And.intro hpar hy)))
  rw [hblen]
  clear hcp hcl hpar hy h1 hc hat hz hbl h3 h4 h5 hbB hblen
  obtain ⟨q, hq⟩ : ∃ q, p + 1 = q := ⟨_, rfl⟩
  obtain ⟨len, hlen⟩ : ∃ len, l.length = len := ⟨_, rfl⟩
  obtain ⟨r1, hr1⟩ : ∃ r1, len - q = r1 := ⟨_, rfl⟩
  obtain ⟨r2, hr2⟩ : ∃ r2, c0 - q = r2 := ⟨_, rfl⟩
  have HQ := Lib.hid (And.intro hq (And.intro hlen hr1))
  rw [hq] at g1 hcut HC
  rw [hlen] at hpI hcut HC ⊢
  rw [hr1] at hcut HC
  rw [hr2] at hcut
  have HZ := Lib.hid (And.intro hsz hbX)
  have HP := Lib.hid (And.intro hp hl)
  clear hq hlen hr1 hr2 hsz hp hl
  generalize l.getD p 0 = z at *
  generalize szO z = m at *
  go_enter Tryd.func43, Tryd.ntmps43
  go_upto_region 2 with (first | (go_at_call 65; refine (HS.out _).mono ?_; rintro e w1 ⟨rfl, rfl⟩) | fail)
  have hb : Blk (w.alloc (.cells (bvs (List.replicate m 0)).toArray 5)) w.heap.size 5 (bvs (List.replicate m 0)).toArray := Blk.new w _ _
  have hW : Below w.heap.size w (w.alloc (.cells (bvs (List.replicate m 0)).toArray 5)) := balloc (Below.refl _ _) _
  have hcell : ∀ j v, (bvs ((l.drop q).take m))[j]? = some v → (w.alloc (.cells (bvs (List.replicate m 0)).toArray 5)).cell? ⟨b, o + q + j, none⟩ = some v := fun j v hj => (cell_heap (p := ⟨b, o + q + j, none⟩) (Below.heap_alloc _ _ _ HZ.out.2)).trans (HC.out.1 j v hj)
  generalize (w.alloc (.cells (bvs (List.replicate m 0)).toArray 5)) = Y at hb hW hcell ⊢
  obtain ⟨_, hcl, hpar, hy⟩ := HC.out
  have HH := Lib.hid (And.intro hb (And.intro hW (And.intro hcell (And.intro hcl (And.intro hpar hy)))))
  clear hb hW hcell hcl hpar hy hmk HS HC cz
  refine wp_region_lit ?_
  refine wpList_plain rfl fun K hK => ?_
  go_simp
  refine hK _ _ ?_
  clear hK K
  refine wpList_plain rfl fun K hK => ?_
  go_simp
  refine hK _ _ ?_
  clear hK K
  refine wpList_plain rfl fun K hK => ?_
  go_simp
  refine hK _ _ ?_
  clear hK K
  refine wpList_plain rfl fun K hK => ?_
  go_simp
  refine hK _ _ ?_
  clear hK K
  refine wpList_plain rfl fun K hK => ?_
  go_simp
  refine hK _ _ ?_
  clear hK K
  obtain ⟨hb, hW, hcell, hcl, hpar, hy⟩ := HH.out
  by_cases hr : r1 = 0
  · refine wpList_copy_nothing rfl (.tmp 12) (.tmp 16) 32 32 rfl 5 (by kernel_rfl) infoU1 (some ⟨w.heap.size, 0, none⟩) y m m r1 r2 rfl rfl (by rw [hr]; simp) (wpList_nil ?_)
    have hnil : (l.drop q).take m = [] := by
      apply List.eq_nil_of_length_eq_zero
      rw [bvs_len] at hcl
      omega
    have hpar2 : (bvs (List.replicate m 0)).toArray = (bvs (bhL l p)).toArray := by rw [← hpar, hnil]; simp [bvs]
    have HE : Hid (Blk Y w.heap.size 5 (bvs (bhL l p)).toArray ∧ Below w.heap.size w Y) := Lib.hid ⟨by rw [← hpar2]; exact hb, hW⟩
    clear hb hW hcell hcl hpar hpar2 hy hnil HH hcut
    go_wp2_with fail
    go_ret
    exact ⟨_, rfl, Nat.le_refl _, HE.out⟩
  · obtain rfl := hy (by have := HQ.out; omega)
    refine wpList_copy_own rfl (.tmp 12) (.tmp 16) 32 32 rfl 5 (by kernel_rfl) infoU1 w.heap.size 0 m m ⟨b, o + q, none⟩ r1 r2 rfl rfl _ 5 hb (bvs ((l.drop q).take m)) hcl (fun j v hj => by rw [Go.WideShapes.add_plain]; exact hcell j v hj) (by rw [hcl, Nat.zero_add, List.size_toArray, bvs_len, List.length_replicate]; omega) (bvs_one _) (wpList_nil ?_)
    rw [hpar]
    have hgr : Blk (Y.setRow w.heap.size (bvs (bhL l p)).toArray) w.heap.size 5 (bvs (bhL l p)).toArray := setRow_heap _ _ _ _ _ _ hb
    have HE := Lib.hid (And.intro hgr (below_setRow hW (Nat.le_refl _) (bvs (bhL l p)).toArray))
    clear hb hW hcell hcl hpar hgr HH hcut hy
    generalize Y.setRow w.heap.size (bvs (bhL l p)).toArray = Z at HE ⊢
    go_wp2_with fail
    go_ret
    exact ⟨_, rfl, Nat.le_refl _, HE.out⟩
/-- Which op has a place. -/
def opI (l : List Nat) (place : Int) : Option Nat := (List.range (opsN l)).find? fun k => (pos l k : Int) = place
def oaB (l : List Nat) (place : Int) : Nat := match opI l place with | some k => opB l k | none => 0
def oaS (l : List Nat) (place : Int) : Bool := (opI l place).isSome
theorem opI_some {l : List Nat} {place : Int} {k : Nat} (h : opI l place = some k) : k < opsN l ∧ place = (pos l k : Nat) := by
  unfold opI at h
  rw [List.find?_range_eq_some] at h
  obtain ⟨h1, h2, _⟩ := h
  exact ⟨by simpa using h2, by simp at h1; exact h1.symm⟩
theorem opI_none {l : List Nat} {place : Int} (h : opI l place = none) : ∀ k, k < opsN l → (pos l k : Int) ≠ place := by
  unfold opI at h
  rw [List.find?_eq_none] at h
  intro k hk
  have := h k (List.mem_range.2 hk)
  simpa using this
theorem opAt_any (B : Nat) (v : Value) (l : List Nat) (hl : l.length ≤ 1000) (place : Int) (w : World) (hB : B ≤ w.heap.size) (hv : Bto B w v l) : Calls Tryd.prog 41 #[v, .int .i64 place] w fun e w' => e = .returned (.tuple #[.int .u8 (oaB l place : Nat), .bool (oaS l place)]) ∧ Below w.heap.size w w' := by
  unfold oaB oaS
  cases h : opI l place with
  | none => exact opAt_miss B v l hl place (opI_none h) w hB hv
  | some k => exact opAt_hit B v l hl k place (opI_some h).1 (opI_some h).2 w hB hv
theorem oaS_place {l : List Nat} {place : Int} (h : oaS l place = true) : ∃ p : Nat, place = p ∧ p < l.length ∧ oaB l place = l.getD p 0 := by
  unfold oaS at h
  cases h2 : opI l place with
  | none => rw [h2] at h; cases h
  | some k =>
    obtain ⟨h3, h4⟩ := opI_some h2
    refine ⟨pos l k, h4, (opsN_spec l).2.2 k h3, ?_⟩
    unfold oaB
    rw [h2]
    rfl
/-- What a PUSH puts, and whether one is there. -/
def pwS (l : List Nat) (place : Int) : Bool := oaS l place && decide (95 ≤ oaB l place) && decide (oaB l place ≤ 127)
def pwN (l : List Nat) (place : Int) : Nat := if pwS l place then nuL (bhL l place.toNat) else 0
end Go.Proofs.YtcdmaapjcckbmaaDoor
