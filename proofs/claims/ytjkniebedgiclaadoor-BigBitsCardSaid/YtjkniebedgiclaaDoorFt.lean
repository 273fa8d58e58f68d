/- big: told. -/
import Derived.Test.YtjkniebedgiclaaDoorFs
namespace Go.Proofs.YtjkniebedgiclaaDoor
open Go.RowKit Go.Shelf

theorem made_u8 (n : Nat) : madeCells (Value.int .u8 0).cells (n * 1) = (bvs (List.replicate n 0)).toArray := by
  apply Array.ext_getElem?
  intro i
  unfold madeCells bvs
  by_cases hi : i < n <;> simp [Value.cells, Nat.mod_one, hi]
theorem make_bytes (n : Nat) (hn : n ≤ 1000000) (w : World) : (Instr.makeSlice 22 (.int .i64 n) (.int .i64 n)).run Tryd.prog w = .ok (.slice (some ⟨w.heap.size, 0, none⟩) n n) (w.alloc (.cells (bvs (List.replicate n 0)).toArray 5)) := by
  obtain ⟨i, hi, hz, hs, hb⟩ := info_parts' infoU8
  have h := run_makeSlice (P := Tryd.prog) (w := w) 22 5 i (.int .u8 0) (by kernel_rfl) hi hz .i64 .i64 n n (by omega) (by omega) (by rw [hs]; omega) (by rw [hb]; omega) (by omega)
  rw [hs, Int.toNat_natCast, made_u8] at h
  exact h

/-- N bytes lie at a block's head. -/
def Bk (X : World) (b N : Nat) (f : Nat → Nat) : Prop := ∃ cs, Blk X b 5 cs ∧ (∀ i, i < N → cs[i]? = some (.int .u8 (f i : Nat))) ∧ ∀ i, i < N → f i < 256
theorem Bk.lt {X : World} {b N : Nat} {f : Nat → Nat} (h : Bk X b N f) : b < X.heap.size := h.choose_spec.1.lt
theorem Bk.cell {X : World} {b N : Nat} {f : Nat → Nat} (h : Bk X b N f) (i : Nat) (hi : i < N) : X.cell? ⟨b, i, none⟩ = some (.int .u8 (f i : Nat)) := by
  obtain ⟨cs, h1, h2, _⟩ := h
  exact (cell_of_row _ _ i _ _ _ h1).trans (h2 i hi)
theorem Bk.free {X : World} {b N : Nat} {f : Nat → Nat} (h : Bk X b N f) (i : Nat) : X.frozen? ⟨b, i, none⟩ = false := frozen_of_row _ _ i _ _ h.choose_spec.1
theorem Bk.congr {X : World} {b N : Nat} {f g : Nat → Nat} (h : Bk X b N f) (e : ∀ i, i < N → f i = g i) : Bk X b N g := by
  obtain ⟨cs, h1, h2, h3⟩ := h
  exact ⟨cs, h1, fun i hi => by rw [← e i hi]; exact h2 i hi, fun i hi => by rw [← e i hi]; exact h3 i hi⟩
theorem Bk.set {X : World} {b N : Nat} {f : Nat → Nat} (h : Bk X b N f) (k v : Nat) (hv : v < 256) : Bk (X.setCell ⟨b, k, none⟩ (.int .u8 (v : Nat))) b N (upf f k v) := by
  obtain ⟨cs, h1, h2, h3⟩ := h
  refine ⟨_, heap_setCell_same X b k cs _ (.int .u8 (v : Nat)) h1, fun i hi => ?_, fun i hi => ?_⟩
  · have hs : i < cs.size := by
      by_cases e : i < cs.size
      · exact e
      · have := h2 i hi; rw [Array.getElem?_eq_none (by omega)] at this; cases this
    unfold upf
    by_cases e : i = k
    · subst e; rw [if_pos rfl, Array.getElem?_setIfInBounds_self_of_lt hs]
    · rw [if_neg e, Array.getElem?_setIfInBounds_ne (Ne.symm e)]; exact h2 i hi
  · unfold upf
    by_cases e : i = k
    · rw [if_pos e]; exact hv
    · rw [if_neg e]; exact h3 i hi
theorem Bk.made (X : World) (n : Nat) : Bk (X.alloc (.cells (bvs (List.replicate n 0)).toArray 5)) X.heap.size n (fun _ => 0) := by
  refine ⟨_, Blk.new X _ _, fun i hi => ?_, fun i _ => by show 0 < 256; omega⟩
  simp [bvs, hi]
theorem Bk.bto {X : World} {b N B : Nat} {f : Nat → Nat} {l : List Nat} (h : Bk X b N f) (hB : b < B) (hl : l.length = N) (hN : N ≤ 1000000) (e : ∀ i u, l[i]? = some u → f i = u) (hu : ∀ x ∈ l, x < 256) : Bto B X (.slice (some ⟨b, 0, none⟩) N N) l := by
  refine ⟨hu, some ⟨b, 0, none⟩, N, by rw [hl], by omega, by omega, fun _ => ⟨b, 0, rfl, hB, h.lt, fun k u hk => ?_⟩⟩
  have hkN : k < N := by
    by_cases e2 : k < l.length
    · omega
    · rw [List.getElem?_eq_none (by omega)] at hk; cases hk
  rw [Nat.zero_add, h.cell k hkN, e k u hk]

set_option maxRecDepth 100000 in
set_option maxHeartbeats 4000000 in
theorem told_any (x : Option Addr) (n c g m c2 N : Nat) (E : Nat → Nat) (w : World) (hn : n ≤ 128) (hm : m ≤ 16) (hN : m ≤ N) (hd : Dk w g N E) :
    Calls Tryd.prog 43 #[.slice x n c, .slice (some ⟨g, 0, none⟩) m c2] w fun e w' =>
      (∃ v, e = .returned v ∧ Bto w'.heap.size w' v (tb (dv E m) n)) ∧ Below w.heap.size w w' := by
  have hmk := make_bytes n (by omega)
  obtain ⟨X, hX⟩ : ∃ X, w.alloc (.cells (bvs (List.replicate n 0)).toArray 5) = X := ⟨_, rfl⟩
  have hB : Bk X w.heap.size n (fun _ => 0) := by rw [← hX]; exact Bk.made w n
  have hC : Chg (fun _ => False) w X := by rw [← hX]; exact (Chg.refl _ w).then_alloc _
  have hgl := hd.lt
  have hd := hd.chg hC (fun h => h)
  obtain ⟨K, hK⟩ : ∃ K, min n (8 * m) = K := ⟨_, rfl⟩
  have g1 : IntKind.i64.wrap ((m : Int) * 8) = (m : Int) * 8 := IntWalk.i64_in _ (by omega)
  have g2 : min (n : Int) ((m : Int) * 8) = (K : Int) := by omega
  have HX := Lib.hid hX
  have HS := Lib.hid (And.intro hB (And.intro hC (And.intro hd hK)))
  clear hX hB hC hd hK
  go_enter Tryd.func43, Tryd.ntmps43
  go_wp2_with fail
  rw [HX.out]
  clear hmk g1 g2
  go_loopw [16] (fun t wr => ∃ i : Nat, t = .int .i64 i ∧ i ≤ K ∧ Bk wr w.heap.size n (fun p => if n - i ≤ p then dv E m / 256 ^ (n - 1 - p) % 256 else 0) ∧ Chg (fun k => k = w.heap.size) X wr) (fun t _ => K - (intOf t).toNat)
  case atStart => exact ⟨0, rfl, Nat.zero_le _, HS.out.1.congr fun p hp => by rw [if_neg (by omega)], Chg.refl _ _⟩
  case round =>
    obtain ⟨i, rfl, hi, hb, hch⟩ := hrel
    by_cases hlt : i < K
    · have hK := HS.out.2.2.2
      obtain ⟨p, hp⟩ : ∃ p, n - 1 - i = p := ⟨_, rfl⟩
      have hd := HS.out.2.2.1.chg hch (by omega)
      have c1 := hd.cell (i / 8) (by omega)
      have c2' := hb.cell p (by omega)
      have c3 := hb.free p
      have hval := dv_byte E m i (fun j hj => hd.dig j (by omega)) (by omega)
      have hxl := hd.dig (i / 8) (by omega)
      obtain ⟨y, hy⟩ : ∃ y, E (i / 8) = y := ⟨_, rfl⟩
      rw [hy] at c1 hval hxl
      obtain ⟨q, hq⟩ : ∃ q, i / 8 = q := ⟨_, rfl⟩
      obtain ⟨s, hs⟩ : ∃ q, i % 8 = q := ⟨_, rfl⟩
      rw [hq] at c1
      rw [hs] at hval
      obtain ⟨k, hk⟩ : ∃ k, s * 8 = k := ⟨_, rfl⟩
      rw [hk] at hval
      obtain ⟨z, hz⟩ : ∃ z, y / 2 ^ k = z := ⟨_, rfl⟩
      rw [hz] at hval
      have hzl : z < 18446744073709551616 := by rw [← hz]; exact Nat.lt_of_le_of_lt (Nat.div_le_self _ _) hxl
      have m1 : IntKind.i64.wrap ((n : Int) - 1) = (n : Int) - 1 := IntWalk.i64_in _ (by omega)
      have m2 : IntKind.i64.wrap ((n : Int) - 1 - (i : Int)) = (p : Int) := by rw [show (n : Int) - 1 - (i : Int) = (p : Int) by omega]; exact IntWalk.i64_in _ (by omega)
      have m2' : (n : Int) - 1 - (i : Int) = (p : Int) := by omega
      have m2'' : IntKind.i64.wrap (p : Int) = (p : Int) := IntWalk.i64_in _ (by omega)
      have m3 : (i : Int) / 8 = (q : Int) := by omega
      have m3' : IntKind.i64.wrap (q : Int) = (q : Int) := IntWalk.i64_in _ (by omega)
      have m4 : (i : Int) % 8 = (s : Int) := by omega
      have m4' : IntKind.i64.wrap (s : Int) = (s : Int) := IntWalk.i64_in _ (by omega)
      have m5 : IntKind.i64.wrap ((s : Int) * 8) = (k : Int) := by rw [show (s : Int) * 8 = (k : Int) by omega]; exact IntWalk.i64_in _ (by omega)
      have m5' : (s : Int) * 8 = (k : Int) := by omega
      have m5'' : IntKind.i64.wrap (k : Int) = (k : Int) := IntWalk.i64_in _ (by omega)
      have m6 : (0 : Int) ≤ (k : Int) := by omega
      have m7 : (k : Int) ≤ 64 := by omega
      have m8 : (y : Int) / 2 ^ k = (z : Int) := by rw [← hz, Int.natCast_ediv, Int.natCast_pow]; rfl
      have m9 : IntKind.u64.wrap (z : Int) = (z : Int) := wrapN _ hzl
      have m10 : IntKind.u8.wrap (z : Int) = ((z % 256 : Nat) : Int) := by rw [IntKind.wrap_u8]; omega
      have m11 : (0 : Int) ≤ (q : Int) := by omega
      have m12 : (q : Int) < (m : Int) := by omega
      have m13 : (0 : Int) ≤ (p : Int) := by omega
      have m14 : (p : Int) < (n : Int) := by omega
      have m15 : (i : Int) < (K : Int) := by omega
      have m16 : (0 : Int) ≤ (i : Int) := by omega
      have m17 : IntKind.i64.wrap ((i : Int) + 1) = ((i + 1 : Nat) : Int) := IntWalk.i64_in _ (by omega)
      obtain ⟨u, hu⟩ : ∃ u, z % 256 = u := ⟨_, rfl⟩
      rw [hu] at m10 hval
      have HV := Lib.hid (And.intro hval (And.intro hb (And.intro hch (And.intro hp (show u < 256 by omega)))))
      clear hval hb hch hd hy hq hs hk hz hzl hxl hu hp hK
      go_wp2_with fail
      obtain ⟨hval, hb, hch, hp, hu⟩ := HV.out
      refine ⟨⟨i + 1, by go_num, by omega, (hb.set p u hu).congr fun j hj => ?_, hch.set _ p _ (fun _ => rfl)⟩, by simp [intOf]; omega⟩
      unfold upf
      have hK := HS.out.2.2.2
      by_cases e : j = p
      · subst e
        rw [if_pos rfl, if_pos (by omega), show n - 1 - j = i by omega]
        exact hval
      · rw [if_neg e]
        show (if n - i ≤ j then dv E m / 256 ^ (n - 1 - j) % 256 else 0) = _
        by_cases e2 : n - i ≤ j
        · rw [if_pos e2, if_pos (by omega)]
        · rw [if_neg e2, if_neg (by omega)]
    · obtain rfl : i = K := by omega
      have HV := Lib.hid (And.intro hb hch)
      clear hb hch
      go_wp2_with fail
      go_ret
      obtain ⟨hb, hch⟩ := HV.out
      have hK := HS.out.2.2.2
      refine ⟨⟨_, rfl, hb.bto hb.lt (tb_len _ _) (by omega) (fun k u hk => ?_) (tb_lt _ _)⟩, ((HS.out.2.1.mono (N := fun k => k = w.heap.size) (fun _ _ h => h.elim)).trans hch (fun _ _ h => h)).below (Nat.le_refl _) (fun k hk e => by omega)⟩
      have hkn : k < n := by
        by_cases e : k < n
        · exact e
        · rw [List.getElem?_eq_none (by rw [tb_len]; omega)] at hk; cases hk
      rw [tb_get _ _ _ hkn] at hk
      injection hk with hk
      show (if n - i ≤ k then dv E m / 256 ^ (n - 1 - k) % 256 else 0) = u
      by_cases e2 : n - i ≤ k
      · rw [if_pos e2, hk]
      · rw [if_neg e2, ← hk]
        have h1 : dv E m < 256 ^ (8 * m) := by rw [pow_digits]; exact dv_lt m fun j hj => hd.dig j (by omega)
        have h2 : 256 ^ (8 * m) ≤ 256 ^ (n - 1 - k) := Nat.pow_le_pow_right (by omega) (by omega)
        rw [Nat.div_eq_of_lt (by omega)]
end Go.Proofs.YtjkniebedgiclaaDoor
