/- big: the digits of bytes, the walk. -/
import Derived.Test.YtjkniebedgiclaaDoorFq
namespace Go.Proofs.YtjkniebedgiclaaDoor
open Go.RowKit Go.Shelf

theorem cutb_from (b o m c l : Nat) (hl : l < m) (hm : m ≤ c) (w : World) : (Instr.slice 22 (.slice (some ⟨b, o, none⟩) m c) (some (.int .i64 (l : Nat))) none none).run Tryd.prog w = .ok (.slice (some ⟨b, o + l, none⟩) (m - l) (c - l)) w := by
  have h := run_slice_l (P := Tryd.prog) (w := w) (t := 22) (a := some ⟨b, o, none⟩) (len := m) (cap := c) (ht := by kernel_rfl) .i64 (l : Int) (by omega) (by omega)
  rw [h, show Tryd.prog.elem 22 = 5 by kernel_rfl, show (sizeOf 5).run Tryd.prog w = .ok 1 w by kernel_rfl]
  simp only [Result.andThen_ok, sliced, Int.toNat_natCast]
  rw [if_neg (by omega)]
  show Result.ok (Value.slice (some (Addr.add ⟨b, o, none⟩ (l * 1))) _ _) w = _
  rw [Go.WideShapes.add_plain, Nat.mul_one]
theorem cutb_to (b o m n c : Nat) (hn : n ≤ c) (w : World) : (Instr.slice 22 (.slice (some ⟨b, o, none⟩) m c) none (some (.int .i64 (n : Nat))) (some (.int .i64 (n : Nat)))).run Tryd.prog w = .ok (.slice (some ⟨b, o, none⟩) n n) w := by
  have h := run_slice_hm (P := Tryd.prog) (w := w) (t := 22) (a := some ⟨b, o, none⟩) (len := m) (cap := c) (ht := by kernel_rfl) .i64 .i64 (n : Int) (n : Int) (by omega) (by omega) (by omega)
  rw [h, show Tryd.prog.elem 22 = 5 by kernel_rfl, show (sizeOf 5).run Tryd.prog w = .ok 1 w by kernel_rfl]
  simp only [Result.andThen_ok, sliced, Int.toNat_natCast, Nat.sub_zero]
  split <;> rfl
/-- The digits of a number that has so many bytes. -/
def dgs (V n : Nat) : List Nat := (List.range (many n)).map (dg V)

set_option maxRecDepth 100000 in
set_option maxHeartbeats 4000000 in
theorem digits_any (B : Nat) (v : Value) (l : List Nat) (w : World) (hl : l.length ≤ 128) (hv : Bto B w v l) :
    Calls Tryd.prog 37 #[v] w fun e w' => (∃ v', e = .returned v' ∧ OwD w' w.heap.size v' (dgs (bv l) (dz l).length)) ∧ Below w.heap.size w w' := by
  have hBare := Lib.hid (bare_any B v l w (by omega) hv)
  have hby := hv.1
  have hlz := dz_le l
  have HV := Lib.hid (And.intro (fun x hx => hby x (dz_mem l x hx)) (bv_dz l))
  clear hv hby
  obtain ⟨r, hr⟩ : ∃ r, dz l = r := ⟨_, rfl⟩
  rw [hr] at hBare hlz HV ⊢
  obtain ⟨V, hV⟩ : ∃ V, bv l = V := ⟨_, rfl⟩
  rw [hV] at HV ⊢
  clear hr hV
  go_enter Tryd.func37, Tryd.ntmps37
  go_wp2_with (first | (go_at_call 27; refine hBare.out.mono ?_; rintro e w1 ⟨⟨v', rfl, hv'⟩, rfl⟩; have HB := Lib.hid hv'; clear hv') | fail)
  by_cases hn : r = []
  · subst hn
    rw [HB.out.2 rfl]
    go_wp2_with fail
    refine wp_loop_rounds 1 ?_
    rw [rounds_succ]
    go_wp2_with fail
    go_ret
    exact ⟨⟨_, rfl, OwD.nil _ _⟩, Below.refl _ _⟩
  · obtain ⟨x0, c0, hv0⟩ := HB.out.is
    obtain ⟨⟨h1, x, cap, hx, h2, h3, h4⟩, _⟩ := HB.out
    obtain ⟨b, o, hxb, hbB, hbw, hcells⟩ := h4 hn
    rw [hxb] at hx
    rw [hx]
    obtain ⟨n, hnn⟩ : ∃ n, r.length = n := ⟨_, rfl⟩
    have HR := Lib.hid (And.intro hnn (And.intro hcells (And.intro hn hbw)))
    rw [hnn] at hlz h2 ⊢
    clear hv0 h1 hx h3 h4 hxb hbB hbw hcells hn hnn HB
    go_loopw [3, 4] (fun s t wr => ∃ j c : Nat, j ≤ many n ∧ n - 8 * j ≤ c ∧ t = .slice (some ⟨b, o, none⟩) (n - 8 * j) c ∧ OwD wr w.heap.size s ((List.range j).map (dg V)) ∧ Below w.heap.size w wr) (fun _ t _ => match t with | .slice _ n _ => n | _ => 0)
    case atStart => exact ⟨0, cap, Nat.zero_le _, by omega, rfl, OwD.nil _ _, Below.refl _ _⟩
    case round =>
      obtain ⟨j, c, hj, hpc, rfl, hown, hW⟩ := hrel
      obtain ⟨p, hp⟩ : ∃ p, n - 8 * j = p := ⟨_, rfl⟩
      rw [hp] at hpc ⊢
      obtain ⟨xs, cs, hsl, _⟩ := hown.is
      rw [show ((List.range j).map (dg V)).length = j by simp] at hsl
      by_cases h0 : 0 < p
      · have g0 : (0 : Int) < (p : Int) := by omega
        obtain ⟨q, hq⟩ : ∃ q, p - 8 = q := ⟨_, rfl⟩
        have g1 : IntKind.i64.wrap ((p : Int) - 8) = (p : Int) - 8 := IntWalk.i64_in _ (by omega)
        have g2 : max ((p : Int) - 8) 0 = (q : Int) := by omega
        have hcf := cutb_from b o p c q (by omega) hpc
        have hct := cutb_to b o p q c (by omega)
        obtain ⟨m, hm⟩ : ∃ m, p - q = m := ⟨_, rfl⟩
        obtain ⟨c2, hc2⟩ : ∃ m, c - q = m := ⟨_, rfl⟩
        rw [hm, hc2] at hcf
        have hlen : ((r.take p).drop q).length = m := by rw [List.length_drop, List.length_take, HR.out.1]; omega
        have hdg : bv ((r.take p).drop q) = dg V j := by
          have h := bv_digit r j HV.out.1 (by rw [HR.out.1]; omega)
          rw [HR.out.1, hp, hq, HV.out.2] at h
          exact h
        have hF := Lib.hid (foldb_any b (o + q) m c2 ((r.take p).drop q) hlen (by omega) wr (fun x hx => HV.out.1 x (List.mem_of_mem_take (List.mem_of_mem_drop hx))) (fun k u hu => by
          rw [List.getElem?_drop] at hu
          have hu2 : r[q + k]? = some u := by
            by_cases e : q + k < p
            · rwa [List.getElem?_take_of_lt e] at hu
            · rw [List.getElem?_eq_none (by rw [List.length_take]; omega)] at hu; cases hu
          rw [Nat.add_assoc]
          exact (hW.cell (p := ⟨b, o + (q + k), none⟩) HR.out.2.2.2).trans (HR.out.2.1 (q + k) u hu2)))
        rw [hdg] at hF
        have hdl : dg V j < B64 := dg_lt V j
        obtain ⟨d, hd⟩ : ∃ d, dg V j = d := ⟨_, rfl⟩
        rw [hd] at hF hdl
        have hA := Lib.hid (And.intro (hown.new ((Below.refl _ wr).alloc (Nat.le_refl _) (.cells #[.int .u64 d] 72))) (And.intro (cell_of_row _ _ 0 _ _ _ (Blk.new wr 72 #[.int .u64 d])) (And.intro (hW.alloc hW.size (.cells #[.int .u64 d] 72)) (And.intro (show w.heap.size ≤ (wr.alloc (.cells #[.int .u64 d] 72)).heap.size by have := hW.size; simp; omega) hdl))))
        have HI := Lib.hid (And.intro hd (And.intro hp (And.intro hq hj)))
        have hj8 : j ≤ 16 := by unfold many at hj; omega
        have hlen10 := Lib.hid (show ((List.range j).map (dg V)).length ≤ 1000 by simp; omega)
        rw [hsl] at hA ⊢
        clear hown hW hpc hm hc2 hlen hdg hdl hd hp hq hj hsl
        go_wp2_with (first | (go_at_call 49; refine hF.out.mono ?_; rintro e w1 ⟨rfl, rfl⟩) | (at_builtin; refine wpList_appd rfl _ _ rfl w.heap.size ((List.range j).map (dg V)) hA.out.1 wr.heap.size d rfl hA.out.2.2.2.2 hA.out.2.1 hlen10.out hA.out.2.2.2.1 ?_; intro v2 w2 hO2 hg2; have HO := Lib.hid (And.intro hO2 hg2); clear hO2 hg2) | fail)
        have hle : (List.range (j + 1)).map (dg V) = (List.range j).map (dg V) ++ [d] := by rw [List.range_succ, List.map_append, ← HI.out.1]; rfl
        have hW2 := hA.out.2.2.1.grown HO.out.2 hA.out.2.2.2.1 (fun k e => (hA.out.1.2.lt k e).1)
        obtain ⟨_, hp, hq, hj⟩ := HI.out
        exact ⟨⟨j + 1, q, by unfold many at *; omega, by omega, by rw [show n - 8 * (j + 1) = q by omega], by rw [hle]; exact HO.out.1, hW2⟩, by show q < p; omega⟩
      · obtain rfl : p = 0 := by omega
        have hjm : j = many n := by unfold many at *; omega
        have HO := Lib.hid (And.intro hown (And.intro hW (And.intro hjm (HR.out.1))))
        rw [hsl] at HO ⊢
        clear hown hW hjm hp hsl hj
        go_wp2_with fail
        go_ret
        refine ⟨⟨_, rfl, ?_⟩, HO.out.2.1⟩
        unfold dgs
        rw [HO.out.2.2.2, ← HO.out.2.2.1]
        exact HO.out.1
end Go.Proofs.YtjkniebedgiclaaDoor
