/- big: the chapter's rows. -/
import Derived.Test.YtjkniebedgiclaaDoorOj
namespace Go.Proofs.YtjkniebedgiclaaDoor
open Go.RowKit Go.Shelf

theorem lit_bto (X : World) (l : List Nat) (hl : ∀ x ∈ l, x < 256) (hN : l.length ≤ 1000000) : Bto (X.heap.size + 1) (X.alloc (.cells (bvs l).toArray 5)) (.slice (some ⟨X.heap.size, 0, none⟩) l.length l.length) l := by
  have hb : Blk (X.alloc (.cells (bvs l).toArray 5)) X.heap.size 5 (bvs l).toArray := Blk.new X _ _
  refine ⟨hl, _, _, rfl, Nat.le_refl _, by omega, fun _ => ⟨X.heap.size, 0, rfl, by omega, hb.lt, fun k u hk => ?_⟩⟩
  rw [Nat.zero_add]
  refine (cell_of_row _ _ k _ _ _ hb).trans ?_
  rw [List.getElem?_toArray, bvs_get, hk]
  rfl
theorem lit1 (w : World) (a : Nat) (ha : a < 256) : Bto (w.heap.size + 1) (w.alloc (.cells #[.int .u8 (a : Nat)] 5)) (.slice (some ⟨w.heap.size, 0, none⟩) 1 1) [a] := lit_bto w [a] (by simp; exact ha) (by simp)
theorem lit2 (w : World) (a b : Nat) (ha : a < 256) (hb : b < 256) : Bto (w.heap.size + 1) (w.alloc (.cells #[.int .u8 (a : Nat), .int .u8 (b : Nat)] 5)) (.slice (some ⟨w.heap.size, 0, none⟩) 2 2) [a, b] := lit_bto w [a, b] (by simp; exact ⟨ha, hb⟩) (by simp)
theorem nil_bto (B : Nat) (w : World) : Bto B w (.slice none 0 0) [] := ⟨by simp, none, 0, rfl, Nat.le_refl _, by simp, fun h => (h rfl).elim⟩
theorem Bto.more {B : Nat} {X : World} {v : Value} {l : List Nat} (h : Bto B X v l) (o : Obj) (C : Nat) (hC : B ≤ C) : Bto C (X.alloc o) v l := (h.new (balloc (Below.refl _ X) o)).mono hC
theorem row_111 (w : World) (a b c : Nat) (ha : a < 256) (hb : b < 256) (hc : c < 256) :
    Calls Tryd.prog 20 #[.slice (some ⟨w.heap.size, 0, none⟩) 1 1, .slice (some ⟨w.heap.size + 1, 0, none⟩) 1 1, .slice (some ⟨w.heap.size + 1 + 1, 0, none⟩) 1 1]
      (((w.alloc (.cells #[.int .u8 (a : Nat)] 5)).alloc (.cells #[.int .u8 (b : Nat)] 5)).alloc (.cells #[.int .u8 (c : Nat)] 5)) fun e w' => e = .returned (.tuple #[.string (toS (tb (pwV [a] [b] [c]) 1)), .bool true]) ∧ Below w.heap.size w w' := by
  have A := (lit1 w a ha).more (.cells #[.int .u8 (b : Nat)] 5) _ (Nat.le_refl _)
  have A := A.more (.cells #[.int .u8 (c : Nat)] 5) (w.heap.size + 1 + 1 + 1) (by omega)
  have B := (lit1 (w.alloc (.cells #[.int .u8 (a : Nat)] 5)) b hb).more (.cells #[.int .u8 (c : Nat)] 5) (w.heap.size + 1 + 1 + 1) (by rw [World.size_alloc]; omega)
  have C := (lit1 ((w.alloc (.cells #[.int .u8 (a : Nat)] 5)).alloc (.cells #[.int .u8 (b : Nat)] 5)) c hc).mono (show _ ≤ w.heap.size + 1 + 1 + 1 by rw [World.size_alloc, World.size_alloc]; exact Nat.le_refl _)
  rw [World.size_alloc] at B
  rw [World.size_alloc, World.size_alloc] at C
  refine (lpower_any _ _ _ _ [a] [b] [c] _ (by simp) (by simp) (by simp) A B C).mono ?_
  rintro e w1 ⟨rfl, hb⟩
  exact ⟨rfl, (balloc (balloc (balloc (Below.refl w.heap.size w) _) _) _).trans (hb.mono (by rw [World.size_alloc, World.size_alloc, World.size_alloc]; omega))⟩
theorem row_11n (w : World) (a b : Nat) (ha : a < 256) (hb : b < 256) :
    Calls Tryd.prog 20 #[.slice (some ⟨w.heap.size, 0, none⟩) 1 1, .slice (some ⟨w.heap.size + 1, 0, none⟩) 1 1, .slice none 0 0]
      ((w.alloc (.cells #[.int .u8 (a : Nat)] 5)).alloc (.cells #[.int .u8 (b : Nat)] 5)) fun e w' => e = .returned (.tuple #[.string (toS []), .bool true]) ∧ Below w.heap.size w w' := by
  have A := (lit1 w a ha).more (.cells #[.int .u8 (b : Nat)] 5) (w.heap.size + 1 + 1) (by omega)
  have B := (lit1 (w.alloc (.cells #[.int .u8 (a : Nat)] 5)) b hb).mono (show _ ≤ w.heap.size + 1 + 1 by rw [World.size_alloc]; exact Nat.le_refl _)
  rw [World.size_alloc] at B
  refine (lpower_any _ _ _ _ [a] [b] [] _ (by simp) (by simp) (by simp) A B (nil_bto _ _)).mono ?_
  rintro e w1 ⟨rfl, hb⟩
  exact ⟨rfl, (balloc (balloc (Below.refl w.heap.size w) _) _).trans (hb.mono (by rw [World.size_alloc, World.size_alloc]; omega))⟩
theorem row_112 (w : World) (a b c d : Nat) (ha : a < 256) (hb : b < 256) (hc : c < 256) (hd : d < 256) :
    Calls Tryd.prog 20 #[.slice (some ⟨w.heap.size, 0, none⟩) 1 1, .slice (some ⟨w.heap.size + 1, 0, none⟩) 1 1, .slice (some ⟨w.heap.size + 1 + 1, 0, none⟩) 2 2]
      (((w.alloc (.cells #[.int .u8 (a : Nat)] 5)).alloc (.cells #[.int .u8 (b : Nat)] 5)).alloc (.cells #[.int .u8 (c : Nat), .int .u8 (d : Nat)] 5)) fun e w' => e = .returned (.tuple #[.string (toS (tb (pwV [a] [b] [c, d]) 2)), .bool true]) ∧ Below w.heap.size w w' := by
  have A := (lit1 w a ha).more (.cells #[.int .u8 (b : Nat)] 5) _ (Nat.le_refl _)
  have A := A.more (.cells #[.int .u8 (c : Nat), .int .u8 (d : Nat)] 5) (w.heap.size + 1 + 1 + 1) (by omega)
  have B := (lit1 (w.alloc (.cells #[.int .u8 (a : Nat)] 5)) b hb).more (.cells #[.int .u8 (c : Nat), .int .u8 (d : Nat)] 5) (w.heap.size + 1 + 1 + 1) (by rw [World.size_alloc]; omega)
  have C := (lit2 ((w.alloc (.cells #[.int .u8 (a : Nat)] 5)).alloc (.cells #[.int .u8 (b : Nat)] 5)) c d hc hd).mono (show _ ≤ w.heap.size + 1 + 1 + 1 by rw [World.size_alloc, World.size_alloc]; exact Nat.le_refl _)
  rw [World.size_alloc] at B
  rw [World.size_alloc, World.size_alloc] at C
  refine (lpower_any _ _ _ _ [a] [b] [c, d] _ (by simp) (by simp) (by simp) A B C).mono ?_
  rintro e w1 ⟨rfl, hb⟩
  exact ⟨rfl, (balloc (balloc (balloc (Below.refl w.heap.size w) _) _) _).trans (hb.mono (by rw [World.size_alloc, World.size_alloc, World.size_alloc]; omega))⟩
theorem row_rest (w : World) :
    Calls Tryd.prog 10 #[.slice (some ⟨w.heap.size, 0, none⟩) 2 2, .slice (some ⟨w.heap.size + 1, 0, none⟩) 1 1]
      ((w.alloc (.cells #[.int .u8 1, .int .u8 0] 5)).alloc (.cells #[.int .u8 7] 5)) fun e w' => (∃ v, e = .returned (.tuple #[v, .int .i64 0]) ∧ Bto w'.heap.size w' v [4]) ∧ Below w.heap.size w w' := by
  have A := (lit2 w 1 0 (by omega) (by omega)).more (.cells #[.int .u8 (7 : Nat)] 5) (w.heap.size + 1 + 1) (by omega)
  have B := (lit1 (w.alloc (.cells #[.int .u8 (1 : Nat), .int .u8 (0 : Nat)] 5)) 7 (by omega)).mono (show _ ≤ w.heap.size + 1 + 1 by rw [World.size_alloc]; exact Nat.le_refl _)
  rw [World.size_alloc] at B
  refine (rest_of _ _ _ [1, 0] [7] _ (by simp) (by simp) A B).mono ?_
  rintro e w1 ⟨⟨v, rfl, hv⟩, hb⟩
  exact ⟨⟨v, rfl, hv⟩, (balloc (balloc (Below.refl w.heap.size w) _) _).trans (hb.mono (by rw [World.size_alloc, World.size_alloc]; omega))⟩
theorem row_order (w : World) :
    Calls Tryd.prog 16 #[.slice (some ⟨w.heap.size, 0, none⟩) 2 2, .slice (some ⟨w.heap.size + 1, 0, none⟩) 1 1]
      ((w.alloc (.cells #[.int .u8 0, .int .u8 5] 5)).alloc (.cells #[.int .u8 5] 5)) fun e w' => e = .returned (.int .i64 0) ∧ Below w.heap.size w w' := by
  have A := (lit2 w 0 5 (by omega) (by omega)).more (.cells #[.int .u8 (5 : Nat)] 5) (w.heap.size + 1 + 1) (by omega)
  have B := (lit1 (w.alloc (.cells #[.int .u8 (0 : Nat), .int .u8 (5 : Nat)] 5)) 5 (by omega)).mono (show _ ≤ w.heap.size + 1 + 1 by rw [World.size_alloc]; exact Nat.le_refl _)
  rw [World.size_alloc] at B
  refine (order_any _ _ _ [0, 5] [5] _ (by simp) (by simp) A B).mono ?_
  rintro e w1 ⟨rfl, hb⟩
  exact ⟨rfl, (balloc (balloc (Below.refl w.heap.size w) _) _).trans (hb.mono (by rw [World.size_alloc, World.size_alloc]; omega))⟩
theorem row_order2 (w : World) :
    Calls Tryd.prog 16 #[.slice (some ⟨w.heap.size + 1, 0, none⟩) 2 2, .slice (some ⟨w.heap.size, 0, none⟩) 1 1]
      ((w.alloc (.cells #[.int .u8 5] 5)).alloc (.cells #[.int .u8 0, .int .u8 5] 5)) fun e w' => e = .returned (.int .i64 0) ∧ Below w.heap.size w w' := by
  have A := (lit1 w 5 (by omega)).more (.cells #[.int .u8 (0 : Nat), .int .u8 (5 : Nat)] 5) (w.heap.size + 1 + 1) (by omega)
  have B := (lit2 (w.alloc (.cells #[.int .u8 (5 : Nat)] 5)) 0 5 (by omega) (by omega)).mono (show _ ≤ w.heap.size + 1 + 1 by rw [World.size_alloc]; exact Nat.le_refl _)
  rw [World.size_alloc] at B
  refine (order_any _ _ _ [0, 5] [5] _ (by simp) (by simp) B A).mono ?_
  rintro e w1 ⟨rfl, hb⟩
  exact ⟨rfl, (balloc (balloc (Below.refl w.heap.size w) _) _).trans (hb.mono (by rw [World.size_alloc, World.size_alloc]; omega))⟩
theorem row_len (w : World) :
    Calls Tryd.prog 18 #[.slice (some ⟨w.heap.size, 0, none⟩) 2 2] (w.alloc (.cells #[.int .u8 0, .int .u8 9] 5)) fun e w' => e = .returned (.int .i64 4) ∧ Below w.heap.size w w' := by
  refine (len_any _ _ [0, 9] _ (by simp) (lit2 w 0 9 (by omega) (by omega))).mono ?_
  rintro e w1 ⟨rfl, rfl⟩
  exact ⟨rfl, balloc (Below.refl w.heap.size w) _⟩
theorem row_bits (w : World) :
    Calls Tryd.prog 15 #[.slice (some ⟨w.heap.size, 0, none⟩) 1 1] (w.alloc (.cells #[.int .u8 5] 5)) fun e w' => ∃ K x c, e = .returned (.func (.func 28) #[] #[.pointer (some ⟨K, 0, none⟩)]) ∧ w.heap.size ≤ K ∧ Blk w' K 22 #[.slice x 1 c] ∧ Ow w' w.heap.size (.slice x 1 c) [5] ∧ Below w.heap.size w w' := by
  refine (bits_any _ _ [5] _ (lit1 w 5 (by omega)) (by simp)).mono ?_
  rintro e w1 ⟨K, x, c, rfl, h1, h2, h3, h4⟩
  rw [World.size_alloc] at h1 h3 h4
  exact ⟨K, x, c, rfl, by omega, h2, h3.mono (by omega), (balloc (Below.refl w.heap.size w) _).trans (h4.mono (by omega))⟩
end Go.Proofs.YtjkniebedgiclaaDoor
