/- label's base: how many bits a number of 64 has, its lowest bit, the bits that are 1; rows that a call owns. -/
import Derived.Test.YtcplhalgjjhmdaaSa
import Derived.Test.YtcplhalgjjhmdaaIo
import Derived.Test.YtcplhalgjjhmdaaTn
import Derived.Lib.TrailingZeros
import Derived.WalkKit
import Derived.Deep.LoopGhost
import Derived.StillTailTactics
namespace Go.Proofs.Ytcplhalgjjhmdaa
open Go.RowKit Go.Shelf

theorem Blk.keep {X Y : World} {g : Nat} {t : TypeId} {cs : Array Value} (h : Blk X g t cs) (k : Below X.heap.size X Y) : Blk Y g t cs := (k.block g h.lt).trans h
theorem Blk.newS (X : World) (o : Obj) (t : TypeId) (cs : Array Value) : Blk ((X.alloc o).alloc (.cells cs t)) (X.heap.size + 1) t cs := by
  have h := Blk.new (X.alloc o) t cs
  rwa [World.size_alloc] at h
theorem rstep {w W w1 : World} (k : Below W.heap.size W w1) (h : Below w.heap.size w W) : Below w.heap.size w w1 := bstep h k
/-- A region that reads, then writes once: walked once, in the text's order, in a world of which only its draws differ. -/
theorem region_tail {P : Program} {id : Nat} {Q : Exit → Act → World → Prop} {a : Act} {w : World} {l : List Oper} (n : Nat) (hm : P.follows .mixedOrders = true) (hB : Region.lexTailB .any l.toArray n = true)
    (h : ∀ wd, wd = w.drew → wpStill P l.toArray wd (fun a' => wpList P l.toArray Q (l.drop n) a' wd) (l.take n) a) : (Code.region id l.toArray true).wp P Q a w :=
  wp_region_still_tail n hm hB (h _ rfl)
theorem grown_drewN {w wr : World} {row : Option Nat} (n : Nat) (h : w.grownBy wr row) : w.grownBy (wr.drewN n) row := ⟨h.os, h.tape, h.output, h.size, h.block⟩
theorem step_world {n : Nat} {w X Y : World} {g : Nat} (h : Below n w X) (k : X.grownBy Y (some g)) (hn : n ≤ w.heap.size) (hg : n ≤ g) : Below n w Y :=
  h.grown k (Nat.le_trans hn h.size) (fun j e => by cases e; omega)
theorem grownNone {w X : World} (h : Below w.heap.size w X) : w.grownBy X none := ⟨h.os, h.tape, h.output, h.size, fun i hi _ => h.block i hi⟩
theorem grownSome {w X : World} {g : Nat} (h : w.grownBy X none) : w.grownBy X (some g) := ⟨h.os, h.tape, h.output, h.size, fun i hi _ => h.block i hi (by simp)⟩
theorem below_drew' {n : Nat} {w X : World} (h : Below n w X) : Below n w X.drew := ⟨h.os, h.tape, h.output, h.size, h.block⟩
theorem Blk.drewN {X : World} {g : Nat} {t : TypeId} {cs : Array Value} (n : Nat) (h : Blk X g t cs) : Blk (X.drewN n) g t cs := h
theorem Blk.drew' {X : World} {g : Nat} {t : TypeId} {cs : Array Value} (h : Blk X g t cs) : Blk X.drew g t cs := h
theorem owns_below {X Y : World} {base : Nat} {e : TypeId} {size : Nat} {v : Value} {n : Nat} {xs : List Value} (h : X.ownsRow base e size v n xs) (hb : Below X.heap.size X Y) : Y.ownsRow base e size v n xs := by
  refine ⟨h.1, ?_⟩
  rcases h.2 with hn | ⟨g, cap, cur, hv, hbg, hg, r⟩
  · exact .inl hn
  · exact .inr ⟨g, cap, cur, hv, hbg, (hb.block g (Array.getElem?_eq_some_iff.1 hg).1).trans hg, r⟩
theorem owns_mono {X : World} {base base' : Nat} {e : TypeId} {size : Nat} {v : Value} {n : Nat} {xs : List Value} (h : X.ownsRow base e size v n xs) (hb : base' ≤ base) : X.ownsRow base' e size v n xs := by
  refine ⟨h.1, ?_⟩
  rcases h.2 with hn | ⟨g, cap, cur, hv, hbg, r⟩
  · exact .inl hn
  · exact .inr ⟨g, cap, cur, hv, Nat.le_trans hb hbg, r⟩
/-- What the append leaves of the two boxes. -/
theorem box_kept {X Y : World} {base g : Nat} {e t : TypeId} {size : Nat} {v : Value} {n : Nat} {xs : List Value} {cs : Array Value} (h : X.ownsRow base e size v n xs) (hG : X.grownBy Y v.ownBlock) (hg : g < base) (hB : Blk X g t cs) : Blk Y g t cs :=
  hB.kept hG (fun e => by have h1 := (h.lt g e.symm).1; omega)
theorem world_kept {w X Y : World} {base n0 : Nat} {e : TypeId} {size : Nat} {v : Value} {n : Nat} {xs : List Value} (h : X.ownsRow base e size v n xs) (hG : X.grownBy Y v.ownBlock) (hb : Below n0 w X) (hn : n0 ≤ w.heap.size) (hn0 : n0 ≤ base) : Below n0 w Y := by
  exact hb.grown hG (Nat.le_trans hn hb.size) (fun k e => Nat.le_trans hn0 (h.lt k e).1)
/-- What a row owned is, as a slice. -/
theorem owns_slice {X : World} {base : Nat} {e : TypeId} {size : Nat} {v : Value} {n : Nat} {xs : List Value} (h : X.ownsRow base e size v n xs) : ∃ x cap, v = .slice x n cap ∧ (0 < n → ∃ g, x = some ⟨g, 0, none⟩ ∧ base ≤ g ∧ g < X.heap.size) := by
  rcases h.2 with ⟨h1, h2⟩ | ⟨g, cap, cur, hv, hb, hg, r⟩
  · exact ⟨none, 0, by rw [h1, h2], fun h => by omega⟩
  · exact ⟨some ⟨g, 0, none⟩, cap, hv, fun _ => ⟨g, rfl, hb, (Array.getElem?_eq_some_iff.1 hg).1⟩⟩
theorem Abide.owns {β : Type} {B base : Nat} {e : TypeId} {size : Nat} {v : Value} {n : Nat} {xs : List Value} {X0 : World} (h0 : X0.ownsRow base e size v n xs) (hB : X0.heap.size ≤ B) : Abide B (fun (_ : β) X => X.ownsRow base e size v n xs) := fun _ X Y row hs hg hr =>
  hs.kept hg (by
    cases hv : v.ownBlock with
    | none => exact .inl rfl
    | some g =>
      refine .inr fun e => ?_
      have h1 := (h0.lt g hv).2
      have h2 := hr g e.symm
      omega)
theorem info_int : (Try.prog.info? 3).map (fun i => (i.zero, i.size, i.bytes)) = some (some (.int .i64 0), 1, 8) := by kernel_rfl
abbrev tab8 : ByteArray := ⟨#[0, 1, 2, 2, 3, 3, 3, 3, 4, 4, 4, 4, 4, 4, 4, 4, 5, 5, 5, 5, 5, 5, 5, 5, 5, 5, 5, 5, 5, 5, 5, 5, 6, 6, 6, 6, 6, 6, 6, 6, 6, 6, 6, 6, 6, 6, 6, 6, 6, 6, 6, 6, 6, 6, 6, 6, 6, 6, 6, 6, 6, 6, 6, 6, 7, 7, 7, 7, 7, 7, 7, 7, 7, 7, 7, 7, 7, 7, 7, 7, 7, 7, 7, 7, 7, 7, 7, 7, 7, 7, 7, 7, 7, 7, 7, 7, 7, 7, 7, 7, 7, 7, 7, 7, 7, 7, 7, 7, 7, 7, 7, 7, 7, 7, 7, 7, 7, 7, 7, 7, 7, 7, 7, 7, 7, 7, 7, 7, 8, 8, 8, 8, 8, 8, 8, 8, 8, 8, 8, 8, 8, 8, 8, 8, 8, 8, 8, 8, 8, 8, 8, 8, 8, 8, 8, 8, 8, 8, 8, 8, 8, 8, 8, 8, 8, 8, 8, 8, 8, 8, 8, 8, 8, 8, 8, 8, 8, 8, 8, 8, 8, 8, 8, 8, 8, 8, 8, 8, 8, 8, 8, 8, 8, 8, 8, 8, 8, 8, 8, 8, 8, 8, 8, 8, 8, 8, 8, 8, 8, 8, 8, 8, 8, 8, 8, 8, 8, 8, 8, 8, 8, 8, 8, 8, 8, 8, 8, 8, 8, 8, 8, 8, 8, 8, 8, 8, 8, 8, 8, 8, 8, 8, 8, 8, 8, 8, 8, 8, 8, 8, 8, 8, 8, 8, 8, 8]⟩
theorem tab8_size : tab8.size = 256 := by decide +kernel
theorem tab8_ok : ∀ y : Fin 256, (tab8[y.val]'(by rw [tab8_size]; exact y.isLt)).toNat ≤ 8 ∧ y.val < 2 ^ (tab8[y.val]'(by rw [tab8_size]; exact y.isLt)).toNat := by decide +kernel
theorem wrap_nn (n t : Nat) (hn : n ≤ 56) (ht : t ≤ 8) : wrap64 ((n : Int) + wrap64 (t : Int)) = ((n + t : Nat) : Int) := by
  unfold wrap64; omega
theorem wrap_ww (t : Nat) (ht : t ≤ 8) : wrap64 (wrap64 (t : Int)) = ((0 + t : Nat) : Int) := by
  unfold wrap64; omega
theorem tab8_low : ∀ y : Fin 256, (y.val = 0 ∧ (tab8[y.val]'(by rw [tab8_size]; exact y.isLt)).toNat = 0) ∨ 2 ^ (tab8[y.val]'(by rw [tab8_size]; exact y.isLt)).toNat ≤ 2 * y.val := by decide +kernel
/-- The bits below t that are 1, rising. -/
def eb (a t : Nat) : List Nat := (List.range t).filter fun j => a.testBit j
theorem eb_zero (a : Nat) : eb a 0 = [] := rfl
theorem eb_succ (a t : Nat) : eb a (t + 1) = eb a t ++ if a.testBit t then [t] else [] := by
  unfold eb
  rw [List.range_succ, List.filter_append]
  congr 1
  cases h : a.testBit t <;> simp [h]
theorem eb_hit (a t : Nat) (h : a.testBit t = true) : eb a (t + 1) = eb a t ++ [t] := by rw [eb_succ, if_pos h]
theorem eb_miss (a t : Nat) (h : a.testBit t = false) : eb a (t + 1) = eb a t := by rw [eb_succ, h]; simp
theorem eb_skip (a s : Nat) : ∀ d, (∀ j, s ≤ j → j < s + d → a.testBit j = false) → eb a (s + d) = eb a s
  | 0, _ => rfl
  | d + 1, h => by
    rw [← Nat.add_assoc, eb_succ, h (s + d) (by omega) (by omega)]
    simp only [Bool.false_eq_true, if_false, List.append_nil]
    exact eb_skip a s d (fun j h1 h2 => h j h1 (by omega))
theorem eb_mem (a t j : Nat) : j ∈ eb a t ↔ j < t ∧ a.testBit j = true := by unfold eb; simp
theorem eb_len (a t : Nat) : (eb a t).length ≤ t := by
  have := List.length_filter_le (fun j => a.testBit j) (List.range t)
  unfold eb; rw [List.length_range] at this; exact this
theorem eb_snoc_inj {a x y : Nat} (h : eb a x ++ [x] = eb a y ++ [y]) : x = y := by
  have := congrArg (fun l => l.getLast?) h
  simpa using this
theorem bit_up (L s j : Nat) : (L / 2 ^ s * 2 ^ s).testBit j = (decide (s ≤ j) && L.testBit j) := by
  rw [Nat.testBit_mul_two_pow, Nat.testBit_div_two_pow]
  by_cases h : s ≤ j
  · simp [h]
  · simp [h]
/-- The lowest bit of what is left, and what is left without it. -/
theorem tz_state (L s : Nat) (hL : L < 2 ^ 64) (h0 : L / 2 ^ s * 2 ^ s ≠ 0) :
    ∃ c, Lib.ctz 64 (L / 2 ^ s * 2 ^ s) = c ∧ s ≤ c ∧ c < 64 ∧ L.testBit c = true ∧ (∀ j, s ≤ j → j < c → L.testBit j = false) ∧ (L / 2 ^ s * 2 ^ s) &&& (L / 2 ^ s * 2 ^ s - 1) = L / 2 ^ (c + 1) * 2 ^ (c + 1) := by
  have hb := bit_up L s
  have hlt : L / 2 ^ s * 2 ^ s < 2 ^ 64 := Nat.lt_of_le_of_lt (Nat.div_mul_le_self _ _) hL
  generalize L / 2 ^ s * 2 ^ s = p at *
  obtain ⟨m, hm, hc⟩ := Lib.ctzFrom_spec 64 p (by omega) hlt
  refine ⟨Lib.ctzFrom 64 p, by unfold Lib.ctz; rw [if_neg h0], ?_⟩
  generalize Lib.ctzFrom 64 p = c at *
  have e1 : p = 2 ^ (c + 1) * m + 2 ^ c := by rw [hm, Nat.pow_succ, Nat.mul_add, Nat.mul_assoc]; omega
  have e2 : p - 1 = 2 ^ (c + 1) * m + (2 ^ c - 1) := by have := Nat.two_pow_pos c; omega
  have l1 : 2 ^ c < 2 ^ (c + 1) := Nat.pow_lt_pow_right (by omega) (by omega)
  have b1 : ∀ j, p.testBit j = if j < c + 1 then decide (c = j) else m.testBit (j - (c + 1)) := fun j => by
    rw [e1, Nat.testBit_two_pow_mul_add _ l1, Nat.testBit_two_pow]
  have b2 : ∀ j, (p - 1).testBit j = if j < c + 1 then decide (j < c) else m.testBit (j - (c + 1)) := fun j => by
    rw [e2, Nat.testBit_two_pow_mul_add _ (by omega), Nat.testBit_two_pow_sub_one]
  have hcc : p.testBit c = true := by rw [b1, if_pos (by omega)]; simp
  have hsc : s ≤ c ∧ L.testBit c = true := by rw [hb] at hcc; simpa using hcc
  refine ⟨hsc.1, hc, hsc.2, fun j h1 h2 => ?_, ?_⟩
  · have h3 : p.testBit j = false := by rw [b1, if_pos (by omega)]; simp; omega
    rw [hb] at h3; simpa [h1] using h3
  · apply Nat.eq_of_testBit_eq; intro j
    rw [Nat.testBit_and, bit_up]
    by_cases h : j < c + 1
    · have h2 : ¬ c + 1 ≤ j := by omega
      rw [b1, b2, if_pos h, if_pos h]
      simp only [h2, decide_false, Bool.false_and]
      by_cases h3 : c = j
      · subst h3; simp
      · simp [h3]
    · have h2 : c + 1 ≤ j := by omega
      have h3 : p.testBit j = (p - 1).testBit j := by rw [b1, b2, if_neg h, if_neg h]
      rw [← h3, Bool.and_self, hb]
      have h4 : s ≤ j := by omega
      simp [h2, h4]
/-- Nothing is left: no bit is 1 from s on. -/
theorem tz_end (L s : Nat) (h0 : L / 2 ^ s * 2 ^ s = 0) (j : Nat) (hj : s ≤ j) : L.testBit j = false := by
  have hb := bit_up L s j
  rw [h0] at hb
  simpa [hj] using hb.symm
/-- A bit that is 1 stands where the bits below it are counted. -/
theorem eb_pre (a s : Nat) : ∀ d, ∃ r, eb a (s + d) = eb a s ++ r
  | 0 => ⟨[], by simp⟩
  | d + 1 => by
    obtain ⟨r, hr⟩ := eb_pre a s d
    exact ⟨r ++ (if a.testBit (s + d) then [s + d] else []), by rw [show s + (d + 1) = s + d + 1 by omega, eb_succ, hr, List.append_assoc]⟩
section
attribute [local go_sem] Oper.semAt_some
theorem tz_key (x a : Nat) (hx : x < 18446744073709551616) (hx0 : x ≠ 0) (hlow : x &&& (18446744073709551616 - x) = a) :
    IntKind.u64.wrap (bits BinOp.and IntKind.u64 (x : Int) (IntKind.u64.wrap (-(x : Int))) * 285870213051353865) / 288230376151711744 = ((a * 285870213051353865 % 18446744073709551616 / 288230376151711744 : Nat) : Int) := by
  have e1 : IntKind.u64.wrap (-(x : Int)) = ((18446744073709551616 - x : Nat) : Int) := by rw [IntKind.wrap_u64]; omega
  rw [e1, bits_and_u64_nat x _ hx (by omega), hlow, IntKind.wrap_u64]
  omega
end
end Go.Proofs.Ytcplhalgjjhmdaa
