/- big: Len, Power, Rest. -/
import Derived.Test.YtjkniebedgiclaaDoorOe
namespace Go.Proofs.YtjkniebedgiclaaDoor
open Go.RowKit Go.Shelf

/-- How many bits there are up to the highest 1. -/
def blen (l : List Nat) : Nat := if dz l = [] then 0 else ((dz l).length - 1) * 8 + l8 ((dz l).getD 0 0)
set_option maxRecDepth 100000 in
set_option maxHeartbeats 2000000 in
theorem len_any (B : Nat) (v : Value) (l : List Nat) (w : World) (hl : l.length ≤ 100000) (hv : Bto B w v l) :
    Calls Tryd.prog 18 #[v] w fun e w' => e = .returned (.int .i64 (blen l : Nat)) ∧ w = w' := by
  have HB := Lib.hid (bare_any B v l w (by omega) hv)
  have hby := hv.1
  have hlz := dz_le l
  obtain ⟨r, hr⟩ : ∃ r, dz l = r := ⟨_, rfl⟩
  have HR := Lib.hid (show (∀ x ∈ r, x < 256) ∧ blen l = (if r = [] then 0 else (r.length - 1) * 8 + l8 (r.getD 0 0)) from ⟨fun x hx => hby x (dz_mem l x (by rw [hr]; exact hx)), by unfold blen; rw [hr]⟩)
  rw [hr] at HB hlz
  clear hv hby hr
  go_enter Tryd.func18, Tryd.ntmps18
  go_upto_region 2 with (first | (go_at_call 27; refine HB.out.mono ?_; rintro e w1 ⟨⟨v', rfl, hv'⟩, rfl⟩) | fail)
  by_cases hn : r = []
  · subst hn
    rw [hv'.2 rfl]
    clear hv'
    go_wp2_with fail
    go_ret
    have hb := HR.out.2
    rw [if_pos trivial] at hb
    exact ⟨by rw [hb]; rfl, rfl⟩
  · obtain ⟨⟨h1, x, c, rfl, h2, h3, h4⟩, _⟩ := hv'
    obtain ⟨b, o, rfl, hb, hbx, hc⟩ := h4 hn
    obtain ⟨y, ys, rfl⟩ : ∃ y ys, r = y :: ys := by
      cases r with
      | nil => exact (hn rfl).elim
      | cons y ys => exact ⟨y, ys, rfl⟩
    have c0 := hc 0 y rfl
    rw [Nat.add_zero] at c0
    have hyl : y < 256 := HR.out.1 y (by simp)
    have hL := Lib.hid (len8_any y hyl w)
    obtain ⟨n, hnn⟩ : ∃ n, (y :: ys).length = n := ⟨_, rfl⟩
    have hn0 : 0 < n := by rw [← hnn]; simp
    rw [hnn] at hlz h2 ⊢
    have hl8 : l8 y ≤ 8 := by have h := t8_ok ⟨y, hyl⟩; have h8 := (tab8_ok ⟨y, hyl⟩).1; rw [h] at h8; exact h8
    have g1 : ((n : Int) == 0) = false := by simp; omega
    have g2 : IntKind.i64.wrap ((n : Int) - 1) = (n : Int) - 1 := IntWalk.i64_in _ (by omega)
    have g3 : IntKind.i64.wrap (((n : Int) - 1) * 8) = ((n : Int) - 1) * 8 := IntWalk.i64_in _ (by omega)
    have g4 : IntKind.i64.wrap (((n : Int) - 1) * 8 + (l8 y : Int)) = (((n - 1) * 8 + l8 y : Nat) : Int) := by rw [show ((n : Int) - 1) * 8 + (l8 y : Int) = (((n - 1) * 8 + l8 y : Nat) : Int) by omega]; exact IntWalk.i64_in _ (by omega)
    have g5 : (0 : Int) < (n : Int) := by omega
    have HV := Lib.hid (show blen l = (n - 1) * 8 + l8 y by rw [HR.out.2, if_neg (by simp), hnn]; rfl)
    obtain ⟨q, hq⟩ : ∃ q, (n - 1) * 8 + l8 y = q := ⟨_, rfl⟩
    rw [hq] at g4 HV
    clear hn h1 h3 h4 hc hb hbx HR HB hnn hq
    go_wp2_with (first | (go_at_call 34; refine hL.out.mono ?_; rintro e w1 ⟨rfl, rfl⟩) | fail)
    go_ret
    exact ⟨by rw [HV.out]; rfl, rfl⟩
theorem blen_zero (l : List Nat) : blen l = 0 ↔ dz l = [] := by
  unfold blen
  constructor
  · intro h
    by_cases e : dz l = []
    · exact e
    · rw [if_neg e] at h
      exfalso
      have h2 := dz_idem l
      cases e2 : dz l with
      | nil => exact e e2
      | cons y ys =>
        rw [e2] at h h2
        have hy : y ≠ 0 := by
          intro e0
          rw [e0] at h2
          have h3 := dz_le ys
          have h4 : dz (0 :: ys) = dz ys := rfl
          rw [h4] at h2
          have := congrArg List.length h2
          simp only [List.length_cons] at this
          omega
        have h5 : l8 y ≠ 0 := by unfold l8; rw [if_neg hy]; omega
        have h6 : ((y :: ys).getD 0 0) = y := rfl
        rw [h6] at h
        omega
  · intro h; rw [if_pos h]
/-- What is left of a power; 0 by nought. -/
def pwV (a n m : List Nat) : Nat := if bv m = 0 then 0 else bv a ^ bv n % bv m
theorem tb_zero (n : Nat) : tb 0 n = List.replicate n 0 := by
  unfold tb
  apply List.ext_getElem?
  intro i
  by_cases h : i < n <;> simp [h]

def PJ (w : World) (a : Act) (X : World) : Prop := ∃ (y0 y1 y2 y3 y4 y5 y6 y7 y8 y9 y10 y11 y12 y13 y14 y15 y16 y17 y18 y19 y20 y21 y22 y23 y24 : Value), a = { tmps := #[y0, y1, y2, y3, y4, y5, y6, y7, y8, y9, y10, y11, y12, y13, y14, y15, y16, y17, y18, y19, y20, y21, y22, y23, y24], defers := [] } ∧ Below w.heap.size w X
set_option maxRecDepth 100000 in
set_option maxHeartbeats 4000000 in
theorem power_long (x1 x2 x3 : Option Addr) (n1 c1 n2 c2 n3 c3 : Nat) (w : World) (hl : 128 < max (max (max 0 n1) n2) n3) :
    Calls Tryd.prog 9 #[.slice x1 n1 c1, .slice x2 n2 c2, .slice x3 n3 c3] w fun e w' => e = .returned (.tuple #[.slice none 0 0, .int .i64 3]) ∧ Below w.heap.size w w' := by
  have hL := Lib.hid (longest_any w.heap.size n1 c1 n2 c2 n3 c3 x1 x2 x3 (w.alloc (.cells #[.slice x1 n1 c1, .slice x2 n2 c2, .slice x3 n3 c3] 22)) (Blk.new w _ _))
  have hW := Lib.hid (balloc (Below.refl w.heap.size w) (.cells #[.slice x1 n1 c1, .slice x2 n2 c2, .slice x3 n3 c3] 22))
  obtain ⟨m, hm⟩ : ∃ m, max (max (max 0 n1) n2) n3 = m := ⟨_, rfl⟩
  rw [hm] at hL hl
  have g1 : (128 : Int) < (m : Int) := by omega
  clear hm
  go_enter Tryd.func9, Tryd.ntmps9
  go_wp2
  refine wp_scope_jumps 0 (PJ w) (fun _ _ => 0) rfl ?first ?pass
  case first =>
    go_wp2_with (first | (go_at_call 21; refine hL.out.mono ?_; rintro e w1 ⟨rfl, rfl⟩) | fail)
    go_step3
    exact ⟨rfl, _, _, _, _, _, _, _, _, _, _, _, _, _, _, _, _, _, _, _, _, _, _, _, _, _, rfl, hW.out⟩
  case pass =>
    rintro act X ⟨y0, y1, y2, y3, y4, y5, y6, y7, y8, y9, y10, y11, y12, y13, y14, y15, y16, y17, y18, y19, y20, y21, y22, y23, y24, rfl, hB⟩
    clear hL hW
    have hE := Lib.hid hB
    clear hB
    go_wp2
    simp only [Exit.jump]
    go_ret2
    exact ⟨rfl, hE.out⟩
end Go.Proofs.YtjkniebedgiclaaDoor
