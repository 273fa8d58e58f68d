/- big's base: boxes, regions, how many bits a number of 64 has, slices that read as bytes, whole products. -/
import Derived.Test.YtjkniebedgiclaaDoorSa
import Derived.Test.YtjkniebedgiclaaDoorIo
import Derived.Test.YtjkniebedgiclaaDoorTn
import Derived.Lib.Mul64
import Derived.WalkKit
import Derived.Deep.LoopGhost
import Derived.StillTailTactics
import Derived.Laws.AppendOwn
import Derived.Laws.AppendOwnNone
import Derived.Deep.Onto
import Derived.Lib.MinMax
namespace Go.Proofs.YtjkniebedgiclaaDoor
open Go.RowKit Go.Shelf

theorem Blk.keep {X Y : World} {g : Nat} {t : TypeId} {cs : Array Value} (h : Blk X g t cs) (k : Below X.heap.size X Y) : Blk Y g t cs := (k.block g h.lt).trans h
theorem Blk.newS (X : World) (o : Obj) (t : TypeId) (cs : Array Value) : Blk ((X.alloc o).alloc (.cells cs t)) (X.heap.size + 1) t cs := by
  have h := Blk.new (X.alloc o) t cs
  rwa [World.size_alloc] at h
theorem rstep {w W w1 : World} (k : Below W.heap.size W w1) (h : Below w.heap.size w W) : Below w.heap.size w w1 := bstep h k
/-- A region that reads, then writes once: walked once, in the text's order, in a world of which only its draws differ. -/
theorem region_tail {P : Program} {id : Nat} {Q : Exit → Act → World → Prop} {a : Act} {w : World} {l : List Oper} (n : Nat) (hm : P.follows .mixedOrders = true) (hB : Region.lexTailB .any l.toArray n = true)
    (h : ∀ wd, wd = w.drew → wpStill P l.toArray wd (fun a' => wpList P l.toArray Q (l.drop n) a' wd) (l.take n) a) : (Code.region id l.toArray true).wp P Q a w :=
  wp_region_still_tail n hm hB (h _ rfl)
theorem grown_drewN {w wr : World} {row : Option Nat} (n : Nat) (h : w.grownBy wr row) : w.grownBy (wr.drewN n) row := ⟨h.os, h.tape, h.output, h.size, h.block⟩
theorem step_world {n : Nat} {w X Y : World} {g : Nat} (h : Below n w X) (k : X.grownBy Y (some g)) (hn : n ≤ w.heap.size) (hg : n ≤ g) : Below n w Y :=
  h.grown k (Nat.le_trans hn h.size) (fun j e => by cases e; omega)
theorem grownNone {w X : World} (h : Below w.heap.size w X) : w.grownBy X none := ⟨h.os, h.tape, h.output, h.size, fun i hi _ => h.block i hi⟩
theorem grownSome {w X : World} {g : Nat} (h : w.grownBy X none) : w.grownBy X (some g) := ⟨h.os, h.tape, h.output, h.size, fun i hi _ => h.block i hi (by simp)⟩
theorem below_drew' {n : Nat} {w X : World} (h : Below n w X) : Below n w X.drew := ⟨h.os, h.tape, h.output, h.size, h.block⟩
theorem Blk.drewN {X : World} {g : Nat} {t : TypeId} {cs : Array Value} (n : Nat) (h : Blk X g t cs) : Blk (X.drewN n) g t cs := h
theorem Blk.drew' {X : World} {g : Nat} {t : TypeId} {cs : Array Value} (h : Blk X g t cs) : Blk X.drew g t cs := h
theorem owns_below {X Y : World} {base : Nat} {e : TypeId} {size : Nat} {v : Value} {n : Nat} {xs : List Value} (h : X.ownsRow base e size v n xs) (hb : Below X.heap.size X Y) : Y.ownsRow base e size v n xs := by
  refine ⟨h.1, ?_⟩
  rcases h.2 with hn | ⟨g, cap, cur, hv, hbg, hg, r⟩
  · exact .inl hn
  · exact .inr ⟨g, cap, cur, hv, hbg, (hb.block g (Array.getElem?_eq_some_iff.1 hg).1).trans hg, r⟩
theorem owns_mono {X : World} {base base' : Nat} {e : TypeId} {size : Nat} {v : Value} {n : Nat} {xs : List Value} (h : X.ownsRow base e size v n xs) (hb : base' ≤ base) : X.ownsRow base' e size v n xs := by
  refine ⟨h.1, ?_⟩
  rcases h.2 with hn | ⟨g, cap, cur, hv, hbg, r⟩
  · exact .inl hn
  · exact .inr ⟨g, cap, cur, hv, Nat.le_trans hb hbg, r⟩
/-- What the append leaves of the two boxes. -/
theorem box_kept {X Y : World} {base g : Nat} {e t : TypeId} {size : Nat} {v : Value} {n : Nat} {xs : List Value} {cs : Array Value} (h : X.ownsRow base e size v n xs) (hG : X.grownBy Y v.ownBlock) (hg : g < base) (hB : Blk X g t cs) : Blk Y g t cs :=
  hB.kept hG (fun e => by have h1 := (h.lt g e.symm).1; omega)
theorem world_kept {w X Y : World} {base n0 : Nat} {e : TypeId} {size : Nat} {v : Value} {n : Nat} {xs : List Value} (h : X.ownsRow base e size v n xs) (hG : X.grownBy Y v.ownBlock) (hb : Below n0 w X) (hn : n0 ≤ w.heap.size) (hn0 : n0 ≤ base) : Below n0 w Y := by
  exact hb.grown hG (Nat.le_trans hn hb.size) (fun k e => Nat.le_trans hn0 (h.lt k e).1)
/-- What a row owned is, as a slice. -/
theorem owns_slice {X : World} {base : Nat} {e : TypeId} {size : Nat} {v : Value} {n : Nat} {xs : List Value} (h : X.ownsRow base e size v n xs) : ∃ x cap, v = .slice x n cap ∧ (0 < n → ∃ g, x = some ⟨g, 0, none⟩ ∧ base ≤ g ∧ g < X.heap.size) := by
  rcases h.2 with ⟨h1, h2⟩ | ⟨g, cap, cur, hv, hb, hg, r⟩
  · exact ⟨none, 0, by rw [h1, h2], fun h => by omega⟩
  · exact ⟨some ⟨g, 0, none⟩, cap, hv, fun _ => ⟨g, rfl, hb, (Array.getElem?_eq_some_iff.1 hg).1⟩⟩
theorem Abide.owns {β : Type} {B base : Nat} {e : TypeId} {size : Nat} {v : Value} {n : Nat} {xs : List Value} {X0 : World} (h0 : X0.ownsRow base e size v n xs) (hB : X0.heap.size ≤ B) : Abide B (fun (_ : β) X => X.ownsRow base e size v n xs) := fun _ X Y row hs hg hr =>
  hs.kept hg (by
    cases hv : v.ownBlock with
    | none => exact .inl rfl
    | some g =>
      refine .inr fun e => ?_
      have h1 := (h0.lt g hv).2
      have h2 := hr g e.symm
      omega)
theorem info_int : (Tryd.prog.info? 3).map (fun i => (i.zero, i.size, i.bytes)) = some (some (.int .i64 0), 1, 8) := by kernel_rfl
abbrev tab8 : ByteArray := ⟨#[0, 1, 2, 2, 3, 3, 3, 3, 4, 4, 4, 4, 4, 4, 4, 4, 5, 5, 5, 5, 5, 5, 5, 5, 5, 5, 5, 5, 5, 5, 5, 5, 6, 6, 6, 6, 6, 6, 6, 6, 6, 6, 6, 6, 6, 6, 6, 6, 6, 6, 6, 6, 6, 6, 6, 6, 6, 6, 6, 6, 6, 6, 6, 6, 7, 7, 7, 7, 7, 7, 7, 7, 7, 7, 7, 7, 7, 7, 7, 7, 7, 7, 7, 7, 7, 7, 7, 7, 7, 7, 7, 7, 7, 7, 7, 7, 7, 7, 7, 7, 7, 7, 7, 7, 7, 7, 7, 7, 7, 7, 7, 7, 7, 7, 7, 7, 7, 7, 7, 7, 7, 7, 7, 7, 7, 7, 7, 7, 8, 8, 8, 8, 8, 8, 8, 8, 8, 8, 8, 8, 8, 8, 8, 8, 8, 8, 8, 8, 8, 8, 8, 8, 8, 8, 8, 8, 8, 8, 8, 8, 8, 8, 8, 8, 8, 8, 8, 8, 8, 8, 8, 8, 8, 8, 8, 8, 8, 8, 8, 8, 8, 8, 8, 8, 8, 8, 8, 8, 8, 8, 8, 8, 8, 8, 8, 8, 8, 8, 8, 8, 8, 8, 8, 8, 8, 8, 8, 8, 8, 8, 8, 8, 8, 8, 8, 8, 8, 8, 8, 8, 8, 8, 8, 8, 8, 8, 8, 8, 8, 8, 8, 8, 8, 8, 8, 8, 8, 8, 8, 8, 8, 8, 8, 8, 8, 8, 8, 8, 8, 8, 8, 8, 8, 8, 8, 8]⟩
theorem tab8_size : tab8.size = 256 := by decide +kernel
theorem tab8_ok : ∀ y : Fin 256, (tab8[y.val]'(by rw [tab8_size]; exact y.isLt)).toNat ≤ 8 ∧ y.val < 2 ^ (tab8[y.val]'(by rw [tab8_size]; exact y.isLt)).toNat := by decide +kernel
theorem wrap_nn (n t : Nat) (hn : n ≤ 56) (ht : t ≤ 8) : wrap64 ((n : Int) + wrap64 (t : Int)) = ((n + t : Nat) : Int) := by
  unfold wrap64; omega
theorem wrap_ww (t : Nat) (ht : t ≤ 8) : wrap64 (wrap64 (t : Int)) = ((0 + t : Nat) : Int) := by
  unfold wrap64; omega
theorem tab8_low : ∀ y : Fin 256, (y.val = 0 ∧ (tab8[y.val]'(by rw [tab8_size]; exact y.isLt)).toNat = 0) ∨ 2 ^ (tab8[y.val]'(by rw [tab8_size]; exact y.isLt)).toNat ≤ 2 * y.val := by decide +kernel
set_option maxRecDepth 100000 in
set_option maxHeartbeats 2000000 in
theorem lenx_low (a : Nat) (h3 : a < 256) (w : World) :
    Calls Tryd.prog 51 #[.int .u64 a] w fun e w' => (∃ l : Nat, e = .returned (.int .i64 l) ∧ l ≤ 64 ∧ a < 2 ^ l ∧ (a = 0 ∧ l = 0 ∨ 2 ^ l ≤ 2 * a)) ∧ w = w' := by
  have h1 : ¬ (4294967296 : Int) ≤ a := by omega
  have h2 : ¬ (65536 : Int) ≤ a := by omega
  have h4 : (a : Int) < 256 := by omega
  have hw : IntKind.u8.wrap (a : Int) = (a : Int) := IntWalk.u8_in _ (by omega)
  have hk := tab8_ok ⟨a, h3⟩
  have hkx := tab8_low ⟨a, h3⟩
  have hsz : a < tab8.size := by rw [tab8_size]; exact h3
  obtain ⟨t, ht⟩ : ∃ t, (tab8[a]'hsz).toNat = t := ⟨_, rfl⟩
  have hk2 : (t ≤ 8 ∧ a < 2 ^ t) ∧ (a = 0 ∧ t = 0 ∨ 2 ^ t ≤ 2 * a) := by rw [← ht]; exact ⟨hk, hkx⟩
  have HT := Lib.hid ht
  clear hk hkx ht
  have HK := Lib.hid hk2
  clear hk2
  go_enter Tryd.func51, Tryd.ntmps51
  go_wp2
  go_ret
  have e := wrap_ww t HK.out.1.1
  rw [← HT.out] at e
  exact ⟨⟨0 + t, by rw [← HT.out]; exact congrArg (fun z => Ending.returned (Value.int .i64 z)) e, by have := HK.out.1.1; omega, by rw [Nat.zero_add]; exact HK.out.1.2, by rw [Nat.zero_add]; exact HK.out.2⟩, rfl⟩
set_option maxRecDepth 100000 in
set_option maxHeartbeats 2000000 in
theorem lenx_001 (a : Nat) (ha : a < 18446744073709551616) (h1 : a < 4294967296) (h2 : a < 65536) (h3 : 256 ≤ a) (w : World) :
    Calls Tryd.prog 51 #[.int .u64 a] w fun e w' => (∃ l : Nat, e = .returned (.int .i64 l) ∧ l ≤ 64 ∧ a < 2 ^ l ∧ (a = 0 ∧ l = 0 ∨ 2 ^ l ≤ 2 * a)) ∧ w = w' := by
  have h1i : ¬ (4294967296 : Int) ≤ (a : Int) := by omega
  have h2i : ¬ (65536 : Int) ≤ (a : Int) := by omega
  have h3i : (256 : Int) ≤ (a : Int) := by omega
  obtain ⟨x3, x3e⟩ : ∃ x3, a / 256 = x3 := ⟨_, rfl⟩
  have x3i : (a : Int) / 256 = (x3 : Int) := by omega
  have Hx3 := Lib.hid x3e
  have hz : x3 < 256 := by omega
  have hzi : (x3 : Int) < 256 := by omega
  have hw : IntKind.u8.wrap (x3 : Int) = (x3 : Int) := IntWalk.u8_in _ (by omega)
  have hD : a < 256 * (x3 + 1) := by omega
  have hDl : 256 * x3 ≤ a ∧ x3 ≠ 0 := by omega
  have HDL := Lib.hid hDl
  clear hDl
  have HD := Lib.hid hD
  have hk := tab8_ok ⟨x3, hz⟩
  have hkx := tab8_low ⟨x3, hz⟩
  have hsz : x3 < tab8.size := by rw [tab8_size]; exact hz
  obtain ⟨t, ht⟩ : ∃ t, (tab8[x3]'hsz).toNat = t := ⟨_, rfl⟩
  have hk2 : (t ≤ 8 ∧ x3 < 2 ^ t) ∧ (x3 = 0 ∧ t = 0 ∨ 2 ^ t ≤ 2 * x3) := by rw [← ht]; exact ⟨hk, hkx⟩
  have HT := Lib.hid ht
  have HK := Lib.hid hk2
  clear hk hkx ht hk2 hD ha x3e
  go_enter Tryd.func51, Tryd.ntmps51
  go_wp2
  go_ret
  have e := wrap_nn 8 t (by omega) HK.out.1.1
  rw [← HT.out] at e
  refine ⟨⟨8 + t, by rw [← HT.out]; exact congrArg (fun z => Ending.returned (Value.int .i64 z)) e, by have := HK.out.1.1; omega, ?_, ?_⟩, rfl⟩
  · rw [Nat.pow_add]
    exact Nat.lt_of_lt_of_le HD.out (Nat.mul_le_mul_left _ HK.out.1.2)
  · refine .inr ?_
    have h := HK.out.2.resolve_left (fun e => HDL.out.2 e.1)
    rw [Nat.pow_add]
    refine Nat.le_trans (Nat.mul_le_mul_left _ h) ?_
    rw [Nat.mul_left_comm]
    exact Nat.mul_le_mul_left _ HDL.out.1
set_option maxRecDepth 100000 in
set_option maxHeartbeats 2000000 in
theorem lenx_010 (a : Nat) (ha : a < 18446744073709551616) (h1 : a < 4294967296) (h2 : 65536 ≤ a) (h3 : a / 65536 < 256) (w : World) :
    Calls Tryd.prog 51 #[.int .u64 a] w fun e w' => (∃ l : Nat, e = .returned (.int .i64 l) ∧ l ≤ 64 ∧ a < 2 ^ l ∧ (a = 0 ∧ l = 0 ∨ 2 ^ l ≤ 2 * a)) ∧ w = w' := by
  have h1i : ¬ (4294967296 : Int) ≤ (a : Int) := by omega
  have h2i : (65536 : Int) ≤ (a : Int) := by omega
  obtain ⟨x2, x2e⟩ : ∃ x2, a / 65536 = x2 := ⟨_, rfl⟩
  have x2i : (a : Int) / 65536 = (x2 : Int) := by omega
  have Hx2 := Lib.hid x2e
  have h3i : ¬ (256 : Int) ≤ (x2 : Int) := by omega
  have hz : x2 < 256 := by omega
  have hzi : (x2 : Int) < 256 := by omega
  have hw : IntKind.u8.wrap (x2 : Int) = (x2 : Int) := IntWalk.u8_in _ (by omega)
  have hD : a < 65536 * (x2 + 1) := by omega
  have hDl : 65536 * x2 ≤ a ∧ x2 ≠ 0 := by omega
  have HDL := Lib.hid hDl
  clear hDl
  have HD := Lib.hid hD
  have hk := tab8_ok ⟨x2, hz⟩
  have hkx := tab8_low ⟨x2, hz⟩
  have hsz : x2 < tab8.size := by rw [tab8_size]; exact hz
  obtain ⟨t, ht⟩ : ∃ t, (tab8[x2]'hsz).toNat = t := ⟨_, rfl⟩
  have hk2 : (t ≤ 8 ∧ x2 < 2 ^ t) ∧ (x2 = 0 ∧ t = 0 ∨ 2 ^ t ≤ 2 * x2) := by rw [← ht]; exact ⟨hk, hkx⟩
  have HT := Lib.hid ht
  have HK := Lib.hid hk2
  clear hk hkx ht hk2 hD ha x2e
  go_enter Tryd.func51, Tryd.ntmps51
  go_wp2
  go_ret
  have e := wrap_nn 16 t (by omega) HK.out.1.1
  rw [← HT.out] at e
  refine ⟨⟨16 + t, by rw [← HT.out]; exact congrArg (fun z => Ending.returned (Value.int .i64 z)) e, by have := HK.out.1.1; omega, ?_, ?_⟩, rfl⟩
  · rw [Nat.pow_add]
    exact Nat.lt_of_lt_of_le HD.out (Nat.mul_le_mul_left _ HK.out.1.2)
  · refine .inr ?_
    have h := HK.out.2.resolve_left (fun e => HDL.out.2 e.1)
    rw [Nat.pow_add]
    refine Nat.le_trans (Nat.mul_le_mul_left _ h) ?_
    rw [Nat.mul_left_comm]
    exact Nat.mul_le_mul_left _ HDL.out.1
set_option maxRecDepth 100000 in
set_option maxHeartbeats 2000000 in
theorem lenx_011 (a : Nat) (ha : a < 18446744073709551616) (h1 : a < 4294967296) (h2 : 65536 ≤ a) (h3 : 256 ≤ a / 65536) (w : World) :
    Calls Tryd.prog 51 #[.int .u64 a] w fun e w' => (∃ l : Nat, e = .returned (.int .i64 l) ∧ l ≤ 64 ∧ a < 2 ^ l ∧ (a = 0 ∧ l = 0 ∨ 2 ^ l ≤ 2 * a)) ∧ w = w' := by
  have h1i : ¬ (4294967296 : Int) ≤ (a : Int) := by omega
  have h2i : (65536 : Int) ≤ (a : Int) := by omega
  obtain ⟨x2, x2e⟩ : ∃ x2, a / 65536 = x2 := ⟨_, rfl⟩
  have x2i : (a : Int) / 65536 = (x2 : Int) := by omega
  have Hx2 := Lib.hid x2e
  have h3i : (256 : Int) ≤ (x2 : Int) := by omega
  obtain ⟨x3, x3e⟩ : ∃ x3, x2 / 256 = x3 := ⟨_, rfl⟩
  have x3i : (x2 : Int) / 256 = (x3 : Int) := by omega
  have Hx3 := Lib.hid x3e
  have hz : x3 < 256 := by omega
  have hzi : (x3 : Int) < 256 := by omega
  have hw : IntKind.u8.wrap (x3 : Int) = (x3 : Int) := IntWalk.u8_in _ (by omega)
  have hD : a < 16777216 * (x3 + 1) := by omega
  have hDl : 16777216 * x3 ≤ a ∧ x3 ≠ 0 := by omega
  have HDL := Lib.hid hDl
  clear hDl
  have HD := Lib.hid hD
  have hk := tab8_ok ⟨x3, hz⟩
  have hkx := tab8_low ⟨x3, hz⟩
  have hsz : x3 < tab8.size := by rw [tab8_size]; exact hz
  obtain ⟨t, ht⟩ : ∃ t, (tab8[x3]'hsz).toNat = t := ⟨_, rfl⟩
  have hk2 : (t ≤ 8 ∧ x3 < 2 ^ t) ∧ (x3 = 0 ∧ t = 0 ∨ 2 ^ t ≤ 2 * x3) := by rw [← ht]; exact ⟨hk, hkx⟩
  have HT := Lib.hid ht
  have HK := Lib.hid hk2
  clear hk hkx ht hk2 hD ha x2e x3e
  go_enter Tryd.func51, Tryd.ntmps51
  go_wp2
  go_ret
  have e := wrap_nn 24 t (by omega) HK.out.1.1
  rw [← HT.out] at e
  refine ⟨⟨24 + t, by rw [← HT.out]; exact congrArg (fun z => Ending.returned (Value.int .i64 z)) e, by have := HK.out.1.1; omega, ?_, ?_⟩, rfl⟩
  · rw [Nat.pow_add]
    exact Nat.lt_of_lt_of_le HD.out (Nat.mul_le_mul_left _ HK.out.1.2)
  · refine .inr ?_
    have h := HK.out.2.resolve_left (fun e => HDL.out.2 e.1)
    rw [Nat.pow_add]
    refine Nat.le_trans (Nat.mul_le_mul_left _ h) ?_
    rw [Nat.mul_left_comm]
    exact Nat.mul_le_mul_left _ HDL.out.1
set_option maxRecDepth 100000 in
set_option maxHeartbeats 2000000 in
theorem lenx_100 (a : Nat) (ha : a < 18446744073709551616) (h1 : 4294967296 ≤ a) (_h2 : a / 4294967296 < 65536) (h3 : a / 4294967296 < 256) (w : World) :
    Calls Tryd.prog 51 #[.int .u64 a] w fun e w' => (∃ l : Nat, e = .returned (.int .i64 l) ∧ l ≤ 64 ∧ a < 2 ^ l ∧ (a = 0 ∧ l = 0 ∨ 2 ^ l ≤ 2 * a)) ∧ w = w' := by
  have h1i : (4294967296 : Int) ≤ (a : Int) := by omega
  obtain ⟨x1, x1e⟩ : ∃ x1, a / 4294967296 = x1 := ⟨_, rfl⟩
  have x1i : (a : Int) / 4294967296 = (x1 : Int) := by omega
  have Hx1 := Lib.hid x1e
  have h2i : ¬ (65536 : Int) ≤ (x1 : Int) := by omega
  have h3i : ¬ (256 : Int) ≤ (x1 : Int) := by omega
  have hz : x1 < 256 := by omega
  have hzi : (x1 : Int) < 256 := by omega
  have hw : IntKind.u8.wrap (x1 : Int) = (x1 : Int) := IntWalk.u8_in _ (by omega)
  have hD : a < 4294967296 * (x1 + 1) := by omega
  have hDl : 4294967296 * x1 ≤ a ∧ x1 ≠ 0 := by omega
  have HDL := Lib.hid hDl
  clear hDl
  have HD := Lib.hid hD
  have hk := tab8_ok ⟨x1, hz⟩
  have hkx := tab8_low ⟨x1, hz⟩
  have hsz : x1 < tab8.size := by rw [tab8_size]; exact hz
  obtain ⟨t, ht⟩ : ∃ t, (tab8[x1]'hsz).toNat = t := ⟨_, rfl⟩
  have hk2 : (t ≤ 8 ∧ x1 < 2 ^ t) ∧ (x1 = 0 ∧ t = 0 ∨ 2 ^ t ≤ 2 * x1) := by rw [← ht]; exact ⟨hk, hkx⟩
  have HT := Lib.hid ht
  have HK := Lib.hid hk2
  clear hk hkx ht hk2 hD ha x1e
  go_enter Tryd.func51, Tryd.ntmps51
  go_wp2
  go_ret
  have e := wrap_nn 32 t (by omega) HK.out.1.1
  rw [← HT.out] at e
  refine ⟨⟨32 + t, by rw [← HT.out]; exact congrArg (fun z => Ending.returned (Value.int .i64 z)) e, by have := HK.out.1.1; omega, ?_, ?_⟩, rfl⟩
  · rw [Nat.pow_add]
    exact Nat.lt_of_lt_of_le HD.out (Nat.mul_le_mul_left _ HK.out.1.2)
  · refine .inr ?_
    have h := HK.out.2.resolve_left (fun e => HDL.out.2 e.1)
    rw [Nat.pow_add]
    refine Nat.le_trans (Nat.mul_le_mul_left _ h) ?_
    rw [Nat.mul_left_comm]
    exact Nat.mul_le_mul_left _ HDL.out.1
set_option maxRecDepth 100000 in
set_option maxHeartbeats 2000000 in
theorem lenx_101 (a : Nat) (ha : a < 18446744073709551616) (h1 : 4294967296 ≤ a) (h2 : a / 4294967296 < 65536) (h3 : 256 ≤ a / 4294967296) (w : World) :
    Calls Tryd.prog 51 #[.int .u64 a] w fun e w' => (∃ l : Nat, e = .returned (.int .i64 l) ∧ l ≤ 64 ∧ a < 2 ^ l ∧ (a = 0 ∧ l = 0 ∨ 2 ^ l ≤ 2 * a)) ∧ w = w' := by
  have h1i : (4294967296 : Int) ≤ (a : Int) := by omega
  obtain ⟨x1, x1e⟩ : ∃ x1, a / 4294967296 = x1 := ⟨_, rfl⟩
  have x1i : (a : Int) / 4294967296 = (x1 : Int) := by omega
  have Hx1 := Lib.hid x1e
  have h2i : ¬ (65536 : Int) ≤ (x1 : Int) := by omega
  have h3i : (256 : Int) ≤ (x1 : Int) := by omega
  obtain ⟨x3, x3e⟩ : ∃ x3, x1 / 256 = x3 := ⟨_, rfl⟩
  have x3i : (x1 : Int) / 256 = (x3 : Int) := by omega
  have Hx3 := Lib.hid x3e
  have hz : x3 < 256 := by omega
  have hzi : (x3 : Int) < 256 := by omega
  have hw : IntKind.u8.wrap (x3 : Int) = (x3 : Int) := IntWalk.u8_in _ (by omega)
  have hD : a < 1099511627776 * (x3 + 1) := by omega
  have hDl : 1099511627776 * x3 ≤ a ∧ x3 ≠ 0 := by omega
  have HDL := Lib.hid hDl
  clear hDl
  have HD := Lib.hid hD
  have hk := tab8_ok ⟨x3, hz⟩
  have hkx := tab8_low ⟨x3, hz⟩
  have hsz : x3 < tab8.size := by rw [tab8_size]; exact hz
  obtain ⟨t, ht⟩ : ∃ t, (tab8[x3]'hsz).toNat = t := ⟨_, rfl⟩
  have hk2 : (t ≤ 8 ∧ x3 < 2 ^ t) ∧ (x3 = 0 ∧ t = 0 ∨ 2 ^ t ≤ 2 * x3) := by rw [← ht]; exact ⟨hk, hkx⟩
  have HT := Lib.hid ht
  have HK := Lib.hid hk2
  clear hk hkx ht hk2 hD ha x1e x3e
  go_enter Tryd.func51, Tryd.ntmps51
  go_wp2
  go_ret
  have e := wrap_nn 40 t (by omega) HK.out.1.1
  rw [← HT.out] at e
  refine ⟨⟨40 + t, by rw [← HT.out]; exact congrArg (fun z => Ending.returned (Value.int .i64 z)) e, by have := HK.out.1.1; omega, ?_, ?_⟩, rfl⟩
  · rw [Nat.pow_add]
    exact Nat.lt_of_lt_of_le HD.out (Nat.mul_le_mul_left _ HK.out.1.2)
  · refine .inr ?_
    have h := HK.out.2.resolve_left (fun e => HDL.out.2 e.1)
    rw [Nat.pow_add]
    refine Nat.le_trans (Nat.mul_le_mul_left _ h) ?_
    rw [Nat.mul_left_comm]
    exact Nat.mul_le_mul_left _ HDL.out.1
set_option maxRecDepth 100000 in
set_option maxHeartbeats 2000000 in
theorem lenx_110 (a : Nat) (ha : a < 18446744073709551616) (h1 : 4294967296 ≤ a) (h2 : 65536 ≤ a / 4294967296) (h3 : a / 4294967296 / 65536 < 256) (w : World) :
    Calls Tryd.prog 51 #[.int .u64 a] w fun e w' => (∃ l : Nat, e = .returned (.int .i64 l) ∧ l ≤ 64 ∧ a < 2 ^ l ∧ (a = 0 ∧ l = 0 ∨ 2 ^ l ≤ 2 * a)) ∧ w = w' := by
  have h1i : (4294967296 : Int) ≤ (a : Int) := by omega
  obtain ⟨x1, x1e⟩ : ∃ x1, a / 4294967296 = x1 := ⟨_, rfl⟩
  have x1i : (a : Int) / 4294967296 = (x1 : Int) := by omega
  have Hx1 := Lib.hid x1e
  have h2i : (65536 : Int) ≤ (x1 : Int) := by omega
  obtain ⟨x2, x2e⟩ : ∃ x2, x1 / 65536 = x2 := ⟨_, rfl⟩
  have x2i : (x1 : Int) / 65536 = (x2 : Int) := by omega
  have Hx2 := Lib.hid x2e
  have h3i : ¬ (256 : Int) ≤ (x2 : Int) := by omega
  have hz : x2 < 256 := by omega
  have hzi : (x2 : Int) < 256 := by omega
  have hw : IntKind.u8.wrap (x2 : Int) = (x2 : Int) := IntWalk.u8_in _ (by omega)
  have hD : a < 281474976710656 * (x2 + 1) := by omega
  have hDl : 281474976710656 * x2 ≤ a ∧ x2 ≠ 0 := by omega
  have HDL := Lib.hid hDl
  clear hDl
  have HD := Lib.hid hD
  have hk := tab8_ok ⟨x2, hz⟩
  have hkx := tab8_low ⟨x2, hz⟩
  have hsz : x2 < tab8.size := by rw [tab8_size]; exact hz
  obtain ⟨t, ht⟩ : ∃ t, (tab8[x2]'hsz).toNat = t := ⟨_, rfl⟩
  have hk2 : (t ≤ 8 ∧ x2 < 2 ^ t) ∧ (x2 = 0 ∧ t = 0 ∨ 2 ^ t ≤ 2 * x2) := by rw [← ht]; exact ⟨hk, hkx⟩
  have HT := Lib.hid ht
  have HK := Lib.hid hk2
  clear hk hkx ht hk2 hD ha x1e x2e
  go_enter Tryd.func51, Tryd.ntmps51
  go_wp2
  go_ret
  have e := wrap_nn 48 t (by omega) HK.out.1.1
  rw [← HT.out] at e
  refine ⟨⟨48 + t, by rw [← HT.out]; exact congrArg (fun z => Ending.returned (Value.int .i64 z)) e, by have := HK.out.1.1; omega, ?_, ?_⟩, rfl⟩
  · rw [Nat.pow_add]
    exact Nat.lt_of_lt_of_le HD.out (Nat.mul_le_mul_left _ HK.out.1.2)
  · refine .inr ?_
    have h := HK.out.2.resolve_left (fun e => HDL.out.2 e.1)
    rw [Nat.pow_add]
    refine Nat.le_trans (Nat.mul_le_mul_left _ h) ?_
    rw [Nat.mul_left_comm]
    exact Nat.mul_le_mul_left _ HDL.out.1
set_option maxRecDepth 100000 in
set_option maxHeartbeats 2000000 in
theorem lenx_111 (a : Nat) (ha : a < 18446744073709551616) (h1 : 4294967296 ≤ a) (h2 : 65536 ≤ a / 4294967296) (h3 : 256 ≤ a / 4294967296 / 65536) (w : World) :
    Calls Tryd.prog 51 #[.int .u64 a] w fun e w' => (∃ l : Nat, e = .returned (.int .i64 l) ∧ l ≤ 64 ∧ a < 2 ^ l ∧ (a = 0 ∧ l = 0 ∨ 2 ^ l ≤ 2 * a)) ∧ w = w' := by
  have h1i : (4294967296 : Int) ≤ (a : Int) := by omega
  obtain ⟨x1, x1e⟩ : ∃ x1, a / 4294967296 = x1 := ⟨_, rfl⟩
  have x1i : (a : Int) / 4294967296 = (x1 : Int) := by omega
  have Hx1 := Lib.hid x1e
  have h2i : (65536 : Int) ≤ (x1 : Int) := by omega
  obtain ⟨x2, x2e⟩ : ∃ x2, x1 / 65536 = x2 := ⟨_, rfl⟩
  have x2i : (x1 : Int) / 65536 = (x2 : Int) := by omega
  have Hx2 := Lib.hid x2e
  have h3i : (256 : Int) ≤ (x2 : Int) := by omega
  obtain ⟨x3, x3e⟩ : ∃ x3, x2 / 256 = x3 := ⟨_, rfl⟩
  have x3i : (x2 : Int) / 256 = (x3 : Int) := by omega
  have Hx3 := Lib.hid x3e
  have hz : x3 < 256 := by omega
  have hzi : (x3 : Int) < 256 := by omega
  have hw : IntKind.u8.wrap (x3 : Int) = (x3 : Int) := IntWalk.u8_in _ (by omega)
  have hD : a < 72057594037927936 * (x3 + 1) := by omega
  have hDl : 72057594037927936 * x3 ≤ a ∧ x3 ≠ 0 := by omega
  have HDL := Lib.hid hDl
  clear hDl
  have HD := Lib.hid hD
  have hk := tab8_ok ⟨x3, hz⟩
  have hkx := tab8_low ⟨x3, hz⟩
  have hsz : x3 < tab8.size := by rw [tab8_size]; exact hz
  obtain ⟨t, ht⟩ : ∃ t, (tab8[x3]'hsz).toNat = t := ⟨_, rfl⟩
  have hk2 : (t ≤ 8 ∧ x3 < 2 ^ t) ∧ (x3 = 0 ∧ t = 0 ∨ 2 ^ t ≤ 2 * x3) := by rw [← ht]; exact ⟨hk, hkx⟩
  have HT := Lib.hid ht
  have HK := Lib.hid hk2
  clear hk hkx ht hk2 hD ha x1e x2e x3e
  go_enter Tryd.func51, Tryd.ntmps51
  go_wp2
  go_ret
  have e := wrap_nn 56 t (by omega) HK.out.1.1
  rw [← HT.out] at e
  refine ⟨⟨56 + t, by rw [← HT.out]; exact congrArg (fun z => Ending.returned (Value.int .i64 z)) e, by have := HK.out.1.1; omega, ?_, ?_⟩, rfl⟩
  · rw [Nat.pow_add]
    exact Nat.lt_of_lt_of_le HD.out (Nat.mul_le_mul_left _ HK.out.1.2)
  · refine .inr ?_
    have h := HK.out.2.resolve_left (fun e => HDL.out.2 e.1)
    rw [Nat.pow_add]
    refine Nat.le_trans (Nat.mul_le_mul_left _ h) ?_
    rw [Nat.mul_left_comm]
    exact Nat.mul_le_mul_left _ HDL.out.1
/-- The bits that a number of 64 has: it lies below that power of two. -/
theorem lenx_any (a : Nat) (ha : a < 18446744073709551616) (w : World) :
    Calls Tryd.prog 51 #[.int .u64 a] w fun e w' => (∃ l : Nat, e = .returned (.int .i64 l) ∧ l ≤ 64 ∧ a < 2 ^ l ∧ (a = 0 ∧ l = 0 ∨ 2 ^ l ≤ 2 * a)) ∧ w = w' := by
  by_cases h1 : 4294967296 ≤ a
  · by_cases h2 : 65536 ≤ a / 4294967296
    · by_cases h3 : 256 ≤ a / 4294967296 / 65536
      · exact lenx_111 a ha h1 h2 h3 w
      · exact lenx_110 a ha h1 h2 (by omega) w
    · by_cases h3 : 256 ≤ a / 4294967296
      · exact lenx_101 a ha h1 (by omega) h3 w
      · exact lenx_100 a ha h1 (by omega) (by omega) w
  · by_cases h2 : 65536 ≤ a
    · by_cases h3 : 256 ≤ a / 65536
      · exact lenx_011 a ha (by omega) h2 h3 w
      · exact lenx_010 a ha (by omega) h2 (by omega) w
    · by_cases h3 : 256 ≤ a
      · exact lenx_001 a ha (by omega) (by omega) h3 w
      · exact lenx_low a (by omega) w
theorem maskN (a : Nat) (ha : a < 18446744073709551616) : bits .and .u64 (a : Int) 4294967295 = ((a % 4294967296 : Nat) : Int) := by
  have h := bits_and_u64_nat a 4294967295 ha (by omega)
  have e : a &&& 4294967295 = a % 4294967296 := Nat.and_two_pow_sub_one_eq_mod a 32
  rw [e] at h
  exact h
theorem divN (a : Nat) : (a : Int) / 4294967296 = ((a / 4294967296 : Nat) : Int) := by omega
theorem addN (a b : Nat) : (a : Int) + (b : Int) = ((a + b : Nat) : Int) := (Int.natCast_add a b).symm
theorem wrapN (a : Nat) (ha : a < 18446744073709551616) : IntKind.u64.wrap (a : Int) = (a : Int) := by rw [IntKind.wrap_u64]; omega
set_option maxHeartbeats 1000000 in
theorem mul64_raw (x y : Nat) (hx : x < 18446744073709551616) (hy : y < 18446744073709551616) (w : World) :
    Calls Tryd.prog 54 #[.int .u64 x, .int .u64 y] w fun e w' => e = .returned (.tuple #[.int .u64 ((x * y / 18446744073709551616 : Nat) : Int), .int .u64 ((x * y % 18446744073709551616 : Nat) : Int)]) ∧ w = w' := by
  obtain ⟨bd, bt, bw, hhi⟩ := Lib.mul64_hi x y hx hy
  have ba := Lib.half_mul_le (a := x / 4294967296) (b := y / 4294967296) (by omega) (by omega)
  have bb := Lib.half_mul_le (a := x / 4294967296) (b := y % 4294967296) (by omega) (by omega)
  have bc := Lib.half_mul_le (a := x % 4294967296) (b := y / 4294967296) (by omega) (by omega)
  have ba' : x / 4294967296 * (y / 4294967296) < 18446744073709551616 := by omega
  have bb' : x / 4294967296 * (y % 4294967296) < 18446744073709551616 := by omega
  have bc' : x % 4294967296 * (y / 4294967296) < 18446744073709551616 := by omega
  have bh1 : x / 4294967296 * (y / 4294967296) + (x / 4294967296 * (y % 4294967296) + x % 4294967296 * (y % 4294967296) / 4294967296) / 4294967296 < 18446744073709551616 := by omega
  have bh : x / 4294967296 * (y / 4294967296) + (x / 4294967296 * (y % 4294967296) + x % 4294967296 * (y % 4294967296) / 4294967296) / 4294967296 + ((x / 4294967296 * (y % 4294967296) + x % 4294967296 * (y % 4294967296) / 4294967296) % 4294967296 + x % 4294967296 * (y / 4294967296)) / 4294967296 < 18446744073709551616 := by omega
  go_enter Tryd.func54, Tryd.ntmps54
  go_wp2
  simp only [maskN x hx, maskN y hy, divN, mulN, addN, wrapN _ bd, wrapN _ bb', wrapN _ bt, maskN _ bt, wrapN _ bc', wrapN _ bw, wrapN _ ba', wrapN _ bh1, wrapN _ bh, wrapM (x * y)]
  rw [hhi]
  go_ret2
  exact ⟨rfl, rfl⟩
theorem add64_nn (x y : Nat) (w : World) :
    (callFunc 55 #[.int .u64 x, .int .u64 y, .int .u64 0]).run Tryd.prog w =
      .ok (.value (.tuple #[.int .u64 (((x + y) % B64 : Nat) : Int), .int .u64 (((x + y) / B64 : Nat) : Int)])) w := by
  rw [run_callFunc_extern (fn := Tryd.f55) (by kernel_rfl) (by kernel_rfl) (by kernel_rfl) (by kernel_rfl) (e := add64Entry) (by kernel_rfl), run_add64 _ _ _ (by omega) (by omega) (by omega) (by omega)]
  simp only [Result.andThen, Int.add_zero]
  rfl
theorem grown_below {w X Y : World} {row : Option Nat} (h : w.grownBy X row) (k : Below X.heap.size X Y) : w.grownBy Y row :=
  ⟨k.os.trans h.os, k.tape.trans h.tape, k.output.trans h.output, Nat.le_trans h.size k.size, fun i hi hne => (k.block i (Nat.lt_of_lt_of_le hi h.size)).trans (h.block i hi hne)⟩
theorem cell_heap {X Y : World} {p : Addr} (h : Y.heap[p.block]? = X.heap[p.block]?) : Y.cell? p = X.cell? p := by unfold World.cell?; rw [h]
theorem infoU8 : (Tryd.prog.info? 5).map (fun i => (i.zero, i.size, i.bytes)) = some (some (.int .u8 0), 1, 1) := by kernel_rfl
theorem info_parts' {P : Program} {e : TypeId} {z : Value} {s b : Nat} (h : (P.info? e).map (fun i => (i.zero, i.size, i.bytes)) = some (some z, s, b)) : ∃ i, P.info? e = some i ∧ i.zero = some z ∧ i.size = s ∧ i.bytes = b := by
  cases hi : P.info? e with
  | none => rw [hi] at h; cases h
  | some i =>
    rw [hi] at h
    simp only [Option.map_some, Option.some.injEq, Prod.mk.injEq] at h
    exact ⟨i, rfl, h.1, h.2.1, h.2.2⟩
def bvs (l : List Nat) : List Value := l.map fun x => Value.int .u8 (x : Nat)
theorem bvs_len (l : List Nat) : (bvs l).length = l.length := by unfold bvs; simp
theorem bvs_app (l m : List Nat) : bvs l ++ bvs m = bvs (l ++ m) := by unfold bvs; simp
theorem bvs_get (l : List Nat) (k : Nat) : (bvs l)[k]? = (l[k]?).map fun x => Value.int .u8 (x : Nat) := by unfold bvs; simp
theorem bvs_one (l : List Nat) : ∀ u ∈ bvs l, u.oneCell' = true := fun u hu => by
  unfold bvs at hu
  simp only [List.mem_map] at hu
  obtain ⟨k, _, rfl⟩ := hu
  rfl
/-- A slice that reads as a list of bytes; its memory lies below B. -/
def Bt (B : Nat) (X : World) (v : Value) (l : List Nat) : Prop := (∀ x ∈ l, x < 256) ∧ ∃ x cap, v = .slice x l.length cap ∧ l.length ≤ cap ∧ cap ≤ 9223372036854775807 ∧ ((x = none ∧ l = [] ∧ cap = 0) ∨ ∃ b o, x = some ⟨b, o, none⟩ ∧ (l ≠ [] → b < B ∧ b < X.heap.size) ∧ ∀ k u, l[k]? = some u → X.cell? ⟨b, o + k, none⟩ = some (.int .u8 (u : Nat)))
theorem Bt.kept {B : Nat} {X Y : World} {v : Value} {l : List Nat} (h : Bt B X v l) (hs : X.heap.size ≤ Y.heap.size) (hk : ∀ b, b < B → b < X.heap.size → Y.heap[b]? = X.heap[b]?) : Bt B Y v l := by
  obtain ⟨h1, x, cap, h2, h3, h4, h5⟩ := h
  refine ⟨h1, x, cap, h2, h3, h4, ?_⟩
  rcases h5 with h5 | ⟨b, o, e, hb, hc⟩
  · exact .inl h5
  · refine .inr ⟨b, o, e, fun hl => ⟨(hb hl).1, Nat.lt_of_lt_of_le (hb hl).2 hs⟩, fun k u hu => ?_⟩
    have hl : l ≠ [] := fun e => by rw [e] at hu; simp at hu
    exact (cell_heap (p := ⟨b, o + k, none⟩) (hk b (hb hl).1 (hb hl).2)).trans (hc k u hu)
theorem Bt.new {B : Nat} {X Y : World} {v : Value} {l : List Nat} (h : Bt B X v l) (k : Below X.heap.size X Y) : Bt B Y v l := h.kept k.size fun b _ hx => k.block b hx
theorem Bt.mono {B C : Nat} {X : World} {v : Value} {l : List Nat} (h : Bt B X v l) (hB : B ≤ C) : Bt C X v l := by
  obtain ⟨h1, x, cap, h2, h3, h4, h5⟩ := h
  refine ⟨h1, x, cap, h2, h3, h4, ?_⟩
  rcases h5 with h5 | ⟨b, o, e, hb, hc⟩
  · exact .inl h5
  · exact .inr ⟨b, o, e, fun hl => ⟨Nat.lt_of_lt_of_le (hb hl).1 hB, (hb hl).2⟩, hc⟩
theorem Abide.bt {β : Type} {B q : Nat} (hB : B ≤ q) (v : Value) (l : List Nat) : Abide q (fun (_ : β) X => Bt B X v l) := fun _ X Y row hs hg hr =>
  Bt.kept hs hg.size fun b hb hx => hg.block b hx (fun e => by have := hr b e.symm; omega)
theorem Bt.below {B n : Nat} {X Y : World} {v : Value} {l : List Nat} (h : Bt B X v l) (hB : B ≤ n) (k : Below n X Y) : Bt B Y v l := h.kept k.size fun b hb _ => k.block b (by omega)
/-- An own row of bytes. -/
def Ow (X : World) (base : Nat) (v : Value) (l : List Nat) : Prop := (∀ x ∈ l, x < 256) ∧ X.ownsRow base 5 1 v l.length (bvs l)
theorem Ow.bt {X : World} {base : Nat} {v : Value} {l : List Nat} (h : Ow X base v l) : Bt X.heap.size X v l := by
  obtain ⟨hs, h⟩ := h
  have h0 := h
  refine ⟨hs, ?_⟩
  rcases h.2 with ⟨hv, hn⟩ | ⟨g, cap, cur, hv, hb, hg, hn, hc, _, _⟩
  · have hl : l = [] := List.eq_nil_of_length_eq_zero hn
    subst hl
    exact ⟨none, 0, hv, Nat.le_refl _, by omega, .inl ⟨rfl, rfl, rfl⟩⟩
  · have hlt := (Array.getElem?_eq_some_iff.1 hg).1
    refine ⟨some ⟨g, 0, none⟩, cap, hv, hn, by unfold maxLen at hc; omega, .inr ⟨g, 0, rfl, fun _ => ⟨hlt, hlt⟩, fun k u hu => ?_⟩⟩
    have h1 := h0.cells (g := g) (by rw [hv]; rfl) k (.int .u8 (u : Nat)) (by rw [bvs_get, hu]; rfl)
    rwa [Go.WideShapes.add_plain] at h1
theorem Ow.is {X : World} {base : Nat} {v : Value} {l : List Nat} (h : Ow X base v l) : ∃ x c, v = .slice x l.length c := by
  obtain ⟨_, x, c, e, _⟩ := h.bt
  exact ⟨x, c, e⟩
theorem Ow.kept {X Y : World} {base : Nat} {v : Value} {l : List Nat} {row : Option Nat} (h : Ow X base v l) (hg : X.grownBy Y row) (hne : ∀ r, row = some r → r < base) : Ow Y base v l := by
  refine ⟨h.1, h.2.kept hg ?_⟩
  cases hv : v.ownBlock with
  | none => exact .inl rfl
  | some k => exact .inr fun e => by have := (h.2.lt k hv).1; have := hne k e.symm; omega
theorem Ow.new {X Y : World} {base : Nat} {v : Value} {l : List Nat} (h : Ow X base v l) (k : Below X.heap.size X Y) : Ow Y base v l := h.kept (grown_new k) (fun _ e => by cases e)
theorem Ow.mono {X : World} {b c : Nat} {v : Value} {l : List Nat} (h : Ow X b v l) (hb : c ≤ b) : Ow X c v l := ⟨h.1, h.2.mono hb⟩
theorem Ow.nil (X : World) (base : Nat) : Ow X base (.slice none 0 0) [] := ⟨by simp, World.ownsRow_nil _ _ _ _⟩
/-- Bytes laid behind an own row of bytes. -/
theorem wpList_app {w : World} {ops : Array Oper} {rest : List Oper} {o : Oper} {a : Act} {Q : Exit → Act → World → Prop} (hgd : o.guard = none) (s x : Operand)
    (ho : o.op = .call { callee := .builtin .append, args := #[s, x], argTypes := #[22, 22] })
    (base : Nat) (l : List Nat) (hown : Ow w base (a.eval s) l) (B : Nat) (m : List Nat) (hx : Bt B w (a.eval x) m) (hn : l.length + m.length ≤ 1000000) (hb : base ≤ w.heap.size)
    (h : ∀ y c w', Ow w' base (.slice y (l ++ m).length c) (l ++ m) → w.grownBy w' (a.eval s).ownBlock → wpList Tryd.prog ops Q rest (a.put o.dst (.slice y (l ++ m).length c)) w') : wpList Tryd.prog ops Q (o :: rest) a w := by
  obtain ⟨i0, hi, hz0, hz1, hz2⟩ := info_parts' infoU8
  have hu : Tryd.prog.underlying 22 = some (.slice 5) := by kernel_rfl
  obtain ⟨hm, y, cap, he, h3, h4, h5⟩ := hx
  rcases h5 with ⟨rfl, rfl, rfl⟩ | ⟨b, q, rfl, hbb, hc⟩
  · refine wpList_append_own_none hgd s x 22 ho base 5 i0 1 hu hi _ _ _ rfl hown.2 he ?_
    obtain ⟨z, c, hv⟩ := hown.is
    have hE : l ++ ([] : List Nat) = l := by simp
    have h' := h z c w
    rw [hE, ← hv] at h'
    exact h' hown (World.grownBy.refl w _)
  · refine wpList_append_own _ hgd s x 22 ho base 5 i0 (.int .u8 0) 1 1 hu hi hz0 hz1 hz2 rfl (by decide) _ l.length (bvs l) rfl hown.2 ⟨b, q, none⟩ m.length cap (bvs m) he (by rw [bvs_len]; omega) ?_ (bvs_one m) (by unfold maxLen; omega) (by omega) hb ?_
    · intro j u hj
      rw [bvs_get] at hj
      cases hmj : m[j]? with
      | none => rw [hmj] at hj; cases hj
      | some v =>
        rw [hmj] at hj
        cases hj
        rw [Go.WideShapes.add_plain]
        exact hc j v hmj
    · intro v' w' ho' hg _
      have hO : Ow w' base v' (l ++ m) := ⟨fun z hz => (List.mem_append.1 hz).elim (hown.1 z) (hm z), by rw [← bvs_app, List.length_append]; exact ho'⟩
      obtain ⟨z, c, rfl⟩ := hO.is
      exact h z c w' hO hg
/-- A slice that reads as these bytes; where it holds none, nothing is said of its place. -/
def Bto (B : Nat) (X : World) (v : Value) (l : List Nat) : Prop := (∀ x ∈ l, x < 256) ∧ ∃ x cap, v = .slice x l.length cap ∧ l.length ≤ cap ∧ l.length ≤ 9223372036854775807 ∧ (l ≠ [] → ∃ b o, x = some ⟨b, o, none⟩ ∧ b < B ∧ b < X.heap.size ∧ ∀ k u, l[k]? = some u → X.cell? ⟨b, o + k, none⟩ = some (.int .u8 (u : Nat)))
theorem Bto.kept {B : Nat} {X Y : World} {v : Value} {l : List Nat} (h : Bto B X v l) (hs : X.heap.size ≤ Y.heap.size) (hk : ∀ b, b < B → b < X.heap.size → Y.heap[b]? = X.heap[b]?) : Bto B Y v l := by
  obtain ⟨h1, x, cap, h2, h3, h4, h5⟩ := h
  refine ⟨h1, x, cap, h2, h3, h4, fun hl => ?_⟩
  obtain ⟨b, o, e, hb, hbx, hc⟩ := h5 hl
  refine ⟨b, o, e, hb, Nat.lt_of_lt_of_le hbx hs, fun k u hu => ?_⟩
  have hh := hk b hb hbx
  rw [← hc k u hu]; simp only [World.cell?, hh]
theorem Bto.new {B : Nat} {X Y : World} {v : Value} {l : List Nat} (h : Bto B X v l) (k : Below X.heap.size X Y) : Bto B Y v l := h.kept k.size fun b _ hx => k.block b hx
theorem Bt.bto {B : Nat} {X : World} {v : Value} {l : List Nat} (h : Bt B X v l) : Bto B X v l := by
  obtain ⟨h1, x, cap, h2, h3, h4, h5⟩ := h
  refine ⟨h1, x, cap, h2, h3, Nat.le_trans h3 h4, fun hl => ?_⟩
  rcases h5 with ⟨_, h, _⟩ | ⟨b, o, e, hb, hc⟩
  · exact (hl h).elim
  · exact ⟨b, o, e, (hb hl).1, (hb hl).2, hc⟩
end Go.Proofs.YtjkniebedgiclaaDoor
