/- digest: pieces, of any bytes. -/
import Derived.Test.YtfknfopdinkmkaaHa
import Derived.Test.YtfknfopdinkmkaaHk
import Derived.Test.YtfknfopdinkmkaaKl
import Derived.Test.YtfknfopdinkmkaaKm
import Derived.Sort.QuietTacIn
import Derived.Sort.LoopGhostIn
import Derived.Lib.MinMax
namespace Go.Proofs.Ytfknfopdinkmkaa
open Go.RowKit Go.Shelf
attribute [local go_sem] zero71
attribute [local irreducible] Bc pcF jn tot
/-- The piece under way. -/
def PcAt (X : World) (gp : Nat) (ls : List Sl) (q f : Nat) : Prop := ∃ g, Blk X gp 66 (Bc 136 g) ∧ ∀ p, p < f → g p = jn ls (136 * q + p)
theorem SlAt.cut {X : World} {s : Sl} {x : Option Addr} {cap : Nat} (h : SlAt X s) (hv : s.v = .slice x s.n cap) (hn : 0 < s.n) : ∃ b o, x = some ⟨b, o, none⟩ ∧ b < X.heap.size ∧ ∀ k, k < s.n → s.f k < 256 ∧ X.cell? ⟨b, o + k, none⟩ = some (.int .u8 (s.f k : Nat)) := by
  obtain ⟨x', cap', hv', _, _, hx⟩ := h
  rw [hv] at hv'
  cases hv'
  exact hx hn
theorem slice136 (gp f : Nat) (hf : f < 136) (w : World) : (Instr.sliceAt 66 (.pointer (some ⟨gp, 0, none⟩)) (some (.int .i64 (f : Nat))) none none).run Try.prog w = .ok (.slice (some ⟨gp, f, none⟩) (136 - f) (136 - f)) w := by
  have h := run_sliceAt_array_l (P := Try.prog) w 66 ⟨gp, 0, none⟩ (by kernel_rfl) .i64 (f : Int) (by omega) (by rw [show Try.prog.arrayLen 66 = 136 by kernel_rfl]; omega)
  rw [h, show Try.prog.elem 66 = 5 by kernel_rfl, show (sizeOf 5).run Try.prog w = .ok 1 w by kernel_rfl, show Try.prog.arrayLen 66 = 136 by kernel_rfl]
  simp only [Result.andThen_ok, slicedAt, Int.toNat_natCast]
  rw [if_neg (by omega), Go.WideShapes.add_plain, Nat.mul_one, Nat.zero_add]
theorem cutFrom (x : Option Addr) (m k c : Nat) (hk : k ≤ m) (w : World) : (Instr.slice 22 (.slice x m c) (some (.int .i64 (k : Nat))) none none).run Try.prog w = .ok (sliced x k m c 1) w := by
  have h := run_slice_l (P := Try.prog) (w := w) (t := 22) (a := x) (len := m) (cap := c) (ht := by kernel_rfl) .i64 (k : Int) (by omega) (by omega)
  rw [h, show Try.prog.elem 22 = 5 by kernel_rfl, show (sizeOf 5).run Try.prog w = .ok 1 w by kernel_rfl]
  rfl
/-- A slice's bytes copied into the piece. -/
theorem copy136 (gp f d m b o c6 r : Nat) (g sf : Nat → Nat) (w : World) (hP : Blk w gp 66 (Bc 136 g)) (hm : m = min r (136 - f)) (hf : f < 136) (hs : ∀ j, j < r → w.cell? ⟨b, o + d + j, none⟩ = some (.int .u8 (sf (d + j) : Nat))) :
    (Builtin.copy_ #[22, 22] 3 #[.slice (some ⟨gp, f, none⟩) (136 - f) (136 - f), .slice (some ⟨b, o + d, none⟩) r c6]).run Try.prog w = .ok (.int .i64 (m : Nat)) (w.setRow gp (Bc 136 (wrF g (fun j => sf (d + j)) f m))) := by
  have h := run_copy_row (P := Try.prog) w 22 22 3 5 gp f (136 - f) (136 - f) ⟨b, o + d, none⟩ r c6 (Bc 136 g) 66 ((List.range m).map fun j => Value.int .u8 (sf (d + j) : Nat)) (by kernel_rfl) (by kernel_rfl) hP
    (by simp; omega)
    (fun j v hj => by
      simp only [List.getElem?_map] at hj
      by_cases hjm : j < m
      · rw [List.getElem?_range hjm] at hj
        simp only [Option.map_some, Option.some.injEq] at hj
        rw [← hj, Go.WideShapes.add_plain]
        exact hs j (by omega)
      · rw [List.getElem?_eq_none (by simp; omega)] at hj; cases hj)
    (by rw [Bc_size]; simp; omega)
    (fun v hv => by simp only [List.mem_map] at hv; obtain ⟨j, _, rfl⟩ := hv; rfl)
  have hl : ((List.range m).map fun j => Value.int .u8 (sf (d + j) : Nat)).length = m := by simp
  rw [hl, Bc_write g (fun j => sf (d + j)) 136 f m (by omega)] at h
  exact h

theorem Bc_set0 (n o : Nat) (g : Nat → Nat) : (Bc n g).setIfInBounds o (.int .u8 0) = Bc n (wrF g (fun _ => 0) o 1) := by
  refine Array.ext_getElem? fun p => ?_
  rw [Array.getElem?_setIfInBounds, Bc_size]
  by_cases hp : p < n
  · rw [Bc_get n (wrF g (fun _ => 0) o 1) p hp]
    unfold wrF
    by_cases e : o = p
    · subst e; rw [if_pos rfl, if_pos hp, if_pos (by omega)]; rfl
    · rw [if_neg e, if_neg (by omega), Bc_get n g p hp]
  · have h1 : (Bc n g)[p]? = none := Array.getElem?_eq_none (by rw [Bc_size]; omega)
    have h2 : (Bc n (wrF g (fun _ => 0) o 1))[p]? = none := Array.getElem?_eq_none (by rw [Bc_size]; omega)
    rw [h1, h2]
    split
    · rename_i e; subst e; rw [if_neg hp]
    · rfl
theorem blk_clear (gp : Nat) : ∀ (m o : Nat) (g : Nat → Nat) (X : World), o + m ≤ 136 → Blk X gp 66 (Bc 136 g) → Blk (X.setCells gp o (List.replicate m (.int .u8 0))) gp 66 (Bc 136 (wrF g (fun _ => 0) o m))
  | 0, o, g, X, _, h => by
    rw [show Bc 136 (wrF g (fun _ => 0) o 0) = Bc 136 g from Bc_congr fun p _ => by unfold wrF; rw [if_neg (by omega)]]
    exact h
  | m + 1, o, g, X, hm, h => by
    have h1 := heap_setCell_same X gp o _ _ (.int .u8 0) h
    rw [Bc_set0] at h1
    have h2 := blk_clear gp m (o + 1) _ _ (by omega) h1
    rw [show Bc 136 (wrF g (fun _ => 0) o (m + 1)) = Bc 136 (wrF (wrF g (fun _ => 0) o 1) (fun _ => 0) (o + 1) m) from Bc_congr fun p _ => by
      unfold wrF
      by_cases a : o + 1 ≤ p ∧ p < o + 1 + m
      · rw [if_pos a, if_pos (by omega)]
      · rw [if_neg a]
        by_cases b : o ≤ p ∧ p < o + 1
        · rw [if_pos b, if_pos (by omega)]
        · rw [if_neg b, if_neg (by omega)]]
    exact h2

set_option maxRecDepth 100000 in
set_option maxHeartbeats 4000000 in
theorem pieces_in (n : Nat) (hn : 1 ≤ n) (l A n₀ : Nat) (ls : List Sl) (x0 : Option Addr) (cap0 : Nat) (hls : ls.length ≤ 1000000) (J Jx : List Nat → World → Prop) (w : World)
    (hA : Blk w A 45 #[.slice x0 ls.length cap0]) (hJ : Abide w.heap.size J) (hBd : ∀ pre X, J pre X → LsAt X x0 ls)
    (hY : ∀ pre (x : Nat) X, (pre = List.range x ∧ x ≤ tot ls / 136) → J pre X → YieldAt Fence.wide 0 Try.prog l #[.int .i64 (pcL (tot ls) x : Nat), .agg (Bc 136 (pcF (tot ls) (jn ls) x))] X fun e Y => (e = .returned (.bool true) ∧ J (pre ++ [x]) Y ∧ Kept w.heap.size X Y ∧ Below n₀ X Y) ∨ (e = .returned (.bool false) ∧ Jx (pre ++ [x]) Y ∧ Kept w.heap.size X Y))
    (h0 : J [] w) :
    CallsIn Fence.wide n Try.prog 39 #[.func (.yield l) #[] #[], .pointer (some ⟨A, 0, none⟩)] w fun e Y => (∃ v, e = .returned v) ∧
      ((∃ xs, xs = List.range (tot ls / 136 + 1) ∧ J xs Y) ∨ (∃ pre, (∃ k, pre = List.range (k + 1) ∧ k ≤ tot ls / 136) ∧ Jx pre Y)) := by
  refine callsIn_of_wp Try.func39 rfl trivial ?_ rfl
  simp only [Try.ntmps39, List.size_toArray, List.length_cons, List.length_nil, Nat.reduceAdd, Nat.reduceSub, Array.replicate_succ, Array.replicate_zero, List.push_toArray, List.append_toArray, List.nil_append, List.cons_append]
  have c0 : w.cell? ⟨A, 0, none⟩ = some (.slice x0 ls.length cap0) := cell_of_row w _ 0 _ _ _ hA
  have hlA := hA.lt
  gi_wp2_with fail
  refine (wpIn_wide (n := n)).2 (wp_scope_jumps 0 (fun a Y => a.defers = [] ∧ ∃ pre, (∃ k, pre = List.range (k + 1) ∧ k ≤ tot ls / 136) ∧ Jx pre Y) (fun _ _ => 0) rfl ?first ?pass)
  case first =>
    refine (wpIn_wide (n := n)).1 ?_
    gi_wp2_with fail
    have hP := Blk.new w 66 (Bc 136 (fun _ => 0))
    have hj0 := hJ.alloc (.cells (Bc 136 (fun _ => 0)) 66) h0
    obtain ⟨w1, hw1⟩ : ∃ w1, w.alloc (.cells (Bc 136 (fun _ => 0)) 66) = w1 := ⟨_, rfl⟩
    rw [hw1] at hP hj0 ⊢
    have HX := Lib.hid (And.intro hP hj0)
    clear hw1 hP hj0 c0 h0
    have HA := Lib.hid hA
    have HJ := Lib.hid hJ
    have HBD := Lib.hid hBd
    have HYY := Lib.hid hY
    clear hA hJ hBd hY
    generalize w.heap.size = gp at HX HJ HYY ⊢
    gi_loopg [4, 10] ls.length (fun c fl i wr => ∃ k q f : Nat, c + k = ls.length ∧ i = .int .i64 (k : Nat) ∧ fl = .int .i64 (f : Nat) ∧ f < 136 ∧ tot (ls.take k) = 136 * q + f ∧ PcAt wr gp ls q f ∧ J (List.range q) wr)
    case atStart => exact ⟨0, 0, 0, by omega, rfl, rfl, by omega, by rw [List.take_zero]; unfold tot; rfl, ⟨_, HX.out.1, fun p hp => by omega⟩, HX.out.2⟩
    case round =>
      clear HX
      obtain ⟨k, q, f, hck, rfl, rfl, hf, htot, hP, hj⟩ := hrel
      by_cases hk : k < ls.length
      · obtain ⟨s, hs⟩ : ∃ s, ls[k]? = some s := ⟨_, List.getElem?_eq_getElem hk⟩
        obtain ⟨hsl, b0, o0, rfl, hb0, hc0⟩ := HBD.out _ _ hj k s hs
        obtain ⟨x, cap, hv, hcap, hcm, hx⟩ := hsl
        have hkI : (k : Int) < (ls.length : Nat) := by omega
        rw [hv] at hc0
        have HS := Lib.hid (And.intro hs hv)
        have HX := Lib.hid (And.intro hP (And.intro hj (And.intro htot hx)))
        clear hs hv hP hj htot hx
        gi_wp2_with fail
        have HCK := Lib.hid hck
        obtain ⟨G, hG⟩ : ∃ G, G = gk := ⟨_, rfl⟩
        subst hG
        gi_loopg [4, 6] s.n (fun c fl b wr => ∃ (d q f : Nat) (y : Option Addr) (c6 : Nat), c + d = s.n ∧ fl = .int .i64 (f : Nat) ∧ f < 136 ∧ tot (ls.take k) + d = 136 * q + f ∧ b = .slice y (s.n - d) c6 ∧ (d < s.n → ∃ b o, x = some ⟨b, o, none⟩ ∧ y = some ⟨b, o + d, none⟩ ∧ s.n - d ≤ c6) ∧ PcAt wr gp ls q f ∧ J (List.range q) wr)
        case atStart => exact ⟨0, q, f, x, cap, by omega, rfl, hf, by rw [HX.out.2.2.1]; rfl, rfl, fun h0 => by obtain ⟨b, o, hb, _⟩ := HX.out.2.2.2 h0; exact ⟨b, o, hb, hb, hcap⟩, HX.out.1, HX.out.2.1⟩
        case round =>
          clear HX hc0 hb0 hf hck
          obtain ⟨d, q, f, y, c6, hcd, rfl, hf, htot, rfl, hy, hP, hj⟩ := hrel
          by_cases hd : d < s.n
          · obtain ⟨b, o, rfl, rfl, hc6⟩ := hy hd
            obtain ⟨b', o', hbo, hb', hbytes⟩ := (HBD.out _ _ hj k s HS.out.1).1.cut HS.out.2 (by omega)
            cases hbo
            obtain ⟨m, hm⟩ : ∃ m, m = min (s.n - d) (136 - f) := ⟨_, rfl⟩
            have hm0 : 0 < m := by omega
            have hmn : m ≤ s.n - d := by omega
            have hmf : m ≤ 136 - f := by omega
            obtain ⟨g, hg, hgp⟩ := hP
            have hcp := copy136 gp f d m b o c6 (s.n - d) g s.f wr hg hm hf (fun j hj => by rw [show o + d + j = o + (d + j) by omega]; exact (hbytes (d + j) (by omega)).2)
            have hsl := slice136 gp f hf
            have hct := cutFrom (some ⟨b, o + d, none⟩) (s.n - d) m c6 hmn
            obtain ⟨y2, l2, c2, hsd⟩ : ∃ y2 l2 c2, sliced (some ⟨b, o + d, none⟩) m (s.n - d) c6 1 = .slice y2 l2 c2 := ⟨_, _, _, rfl⟩
            have hl2 : l2 = s.n - (d + m) ∧ (d + m < s.n → y2 = some ⟨b, o + (d + m), none⟩ ∧ s.n - (d + m) ≤ c2) := by
              unfold sliced at hsd
              injection hsd with e1 e2 e3
              refine ⟨by omega, fun h => ?_⟩
              rw [if_neg (by omega)] at e1
              refine ⟨?_, by omega⟩
              rw [← e1]
              show some (Addr.add ⟨b, o + d, none⟩ (m * 1)) = _
              rw [Go.WideShapes.add_plain, Nat.mul_one, Nat.add_assoc]
            rw [hsd] at hct
            have hli : (0 : Int) < ((s.n - d : Nat) : Int) := by omega
            have hw1 : IntKind.i64.wrap ((f : Int) + (m : Int)) = ((f + m : Nat) : Int) := by rw [IntWalk.i64_in _ (by omega)]; omega
            have hg2 : Blk (wr.setRow gp (Bc 136 (wrF g (fun j => s.f (d + j)) f m))) gp 66 (Bc 136 (wrF g (fun j => s.f (d + j)) f m)) := setRow_heap _ _ _ _ _ _ hg
            have hj2 := HJ.out _ _ _ (some gp) hj (grown_setRow wr gp (Bc 136 (wrF g (fun j => s.f (d + j)) f m))) (fun r e => by cases e; exact Nat.le_refl _)
            have hwr : ∀ p, p < f + m → wrF g (fun j => s.f (d + j)) f m p = jn ls (136 * q + p) := fun p hp => by
              unfold wrF
              by_cases hpf : p < f
              · rw [if_neg (by omega), hgp p hpf]
              · rw [if_pos (by omega)]
                show s.f (d + (p - f)) = _
                rw [← jn_at ls k s HS.out.1 (d + (p - f)) (by omega)]
                congr 1; omega
            obtain ⟨g2, hgg⟩ : ∃ g2, wrF g (fun j => s.f (d + j)) f m = g2 := ⟨_, rfl⟩
            rw [hgg] at hcp hg2 hj2 hwr
            have HX := Lib.hid (And.intro hg2 (And.intro hj2 (And.intro hwr (And.intro hl2 htot))))
            clear hg hgp hj hg2 hj2 hwr hl2 htot hbytes hb' hy hgg hsd
            have HM := Lib.hid hm
            clear hm
            gi_wp2_with fail
            gi_quiet_th (fail)
            clear hcp hsl hct hw1 hli
            obtain ⟨hg2, hj2, hwr, hl2, htot⟩ := HX.out
            obtain ⟨W2, hW2⟩ : ∃ W2, (wr.setRow gp (Bc 136 g2)).drewN nq = W2 := ⟨_, rfl⟩
            have hGq : (wr.setRow gp (Bc 136 g2)).grownBy W2 none := by rw [← hW2]; exact ⟨rfl, rfl, rfl, Nat.le_refl _, fun _ _ _ => rfl⟩
            have hg3 := hg2.kept hGq (by simp)
            have hj3 := HJ.out _ _ _ none hj2 hGq (fun _ e => by cases e)
            rw [hW2]
            clear hGq hg2 hj2 hW2 HX
            obtain ⟨t, ht⟩ : ∃ t, f + m = t := ⟨_, rfl⟩
            have htI : (f : Int) + (m : Int) = (t : Int) := by omega
            rw [htI]
            rw [ht] at hwr
            obtain ⟨hl2, hy2⟩ := hl2
            subst hl2
            by_cases ht136 : t < 136
            · have hlt : (t : Int) < 136 := by omega
              have HE := Lib.hid (And.intro hwr (And.intro hg3 (And.intro hj3 (And.intro hy2 (show tot (ls.take k) + (d + m) = 136 * q + t by omega)))))
              have HMM := Lib.hid (show gk - m < gk ∧ gk - m + (d + m) = s.n by omega)
              clear hwr hg3 hj3 hy2 htot ht htI hcd hm0 hmn hmf
              gi_wp2_with fail
              gi_roundg (gk - m)
              case measure => exact HMM.out.1
              case rel => exact ⟨d + m, q, t, y2, c2, HMM.out.2, rfl, ht136, HE.out.2.2.2.2, rfl, fun h => ⟨b, o, rfl, HE.out.2.2.2.1 h⟩, ⟨g2, HE.out.2.1, HE.out.1⟩, HE.out.2.2.1⟩
            · have htt : t = 136 := by omega
              subst htt
              have hqq : 136 * q + 136 ≤ tot ls := by
                have h1 := tot_take ls k s HS.out.1
                have h2 := tot_le ls (k + 1)
                omega
              have hY1 := HYY.out (List.range q) q W2 ⟨rfl, by omega⟩ hj3
              rw [show pcL (tot ls) q = 136 by unfold pcL; omega, ← pc_full hqq hwr, show ((136 : Nat) : Int) = 136 from rfl] at hY1
              obtain ⟨fn, tmps, assign, body, hyy, hR⟩ := YieldAt.wide (m' := n - 1) hY1
              have HR := Lib.hid hR
              have HE := Lib.hid (And.intro hg3 (And.intro hy2 (And.intro (show tot (ls.take k) + (d + m) = 136 * (q + 1) + 0 by omega) hqq)))
              have HMM := Lib.hid (show gk - m < gk ∧ gk - m + (d + m) = s.n by omega)
              clear hwr hg3 hj3 hy2 htot ht htI hcd hm0 hmn hmf hR hY1 hqq
              gi_wp2_with fail
              refine wpIn_load_row 66 (.tmp 3) rfl gp 0 rfl (Bc 136 g2).toList _ HE.out.1.rangeAt und71 rfl (by rw [info71]; show some 136 = some (Bc 136 g2).size; rw [Bc_size]) ?_
              rename_i K hK
              refine hK _ _ ?_
              clear hK K
              rw [Array.toArray_toList]
              gi_wp2_with fail
              refine RoundIn.mono HR.out ?_
              clear HR hyy
              rintro e Y (⟨rfl, hj, hkp, _⟩ | ⟨rfl, hj, _⟩)
              · have hgY : Blk Y gp 66 (Bc 136 g2) := (hkp.2 gp (Nat.le_refl _) HE.out.1.lt).trans HE.out.1
                have HF := Lib.hid (And.intro hgY (And.intro hj HE.out.2))
                clear hgY hj hkp HE
                gi_wp2_with fail
                gi_roundg (gk - m)
                case measure => exact HMM.out.1
                case rel => exact ⟨d + m, q + 1, 0, y2, c2, HMM.out.2, rfl, by omega, HF.out.2.2.2.1, rfl, fun h => ⟨b, o, rfl, HF.out.2.2.1 h⟩, ⟨g2, HF.out.1, fun p hp => absurd hp (by omega)⟩, by rw [List.range_succ]; exact HF.out.2.1⟩
              · have hqq := HE.out.2.2.2
                have HF := Lib.hid (And.intro hj (show q ≤ tot ls / 136 by omega))
                clear hj HE hqq
                gi_wp2_with fail
                refine (wpIn_wide (n := n)).2 ?_
                go_step3
                exact ⟨rfl, rfl, _, ⟨q, rfl, HF.out.2⟩, by rw [List.range_succ]; exact HF.out.1⟩
          · have hds : d = s.n := by omega
            subst hds
            have HE := Lib.hid (And.intro hP (And.intro hj htot))
            clear hP hj htot hy
            rw [Nat.sub_self]
            gi_wp2_with fail
            gi_roundg (G - 1)
            case measure => have := HCK.out; omega
            case rel => exact ⟨k + 1, q, f, by have := HCK.out; omega, by go_num, rfl, hf, by rw [tot_take ls k s HS.out.1]; exact HE.out.2.2, HE.out.1, HE.out.2.1⟩
      · have hkl : k = ls.length := by omega
        subst hkl
        obtain ⟨g, hg, hgp⟩ := hP
        rw [List.take_length] at htot
        have hclr := Lib.run_clear_slice (P := Try.prog) wr 22 5 0 (.int .u8 0) (by kernel_rfl) (fun w => by kernel_rfl) rfl rfl gp f (136 - f) (136 - f) (by omega)
          (fun j hj => by rw [cell_of_row _ _ (f + j) _ _ _ hg, Bc_get 136 g (f + j) (by omega)]; rfl) (fun j hj => frozen_of_row _ _ (f + j) _ _ hg)
        have hsl := slice136 gp f hf
        have hg2 := blk_clear gp (136 - f) f g wr (by omega) hg
        have hj2 := HJ.out _ _ _ (some gp) hj (grown_setCells gp (List.replicate (136 - f) (.int .u8 0)) f _ _ (grown_refl wr gp)) (fun r e => by cases e; exact Nat.le_refl _)
        obtain ⟨W2, hW2⟩ : ∃ W2, wr.setCells gp f (List.replicate (136 - f) (.int .u8 0)) = W2 := ⟨_, rfl⟩
        rw [hW2] at hg2 hj2 hclr
        have hlast : Bc 136 (wrF g (fun _ => 0) f (136 - f)) = Bc 136 (pcF (tot ls) (jn ls) q) := pc_last htot
          (fun p hp => by unfold wrF; rw [if_neg (by omega)]; exact hgp p hp) (fun p h1 h2 => by unfold wrF; rw [if_pos (by omega)])
        have hY1 := HYY.out (List.range q) q W2 ⟨rfl, by omega⟩ hj2
        rw [show pcL (tot ls) q = f by unfold pcL; omega] at hY1
        rw [hlast] at hg2
        obtain ⟨fn, tmps, assign, body, hyy, hR⟩ := YieldAt.wide (m' := n - 1) hY1
        have HR := Lib.hid hR
        have HG := Lib.hid (And.intro hg2 (show q = tot ls / 136 by omega))
        clear hR hY1 hg hgp hj hg2 hj2 hW2 hlast htot hck
        gi_wp2_with fail
        refine wpIn_load_row 66 (.tmp 3) rfl gp 0 rfl (Bc 136 (pcF (tot ls) (jn ls) q)).toList _ HG.out.1.rangeAt und71 rfl (by rw [info71]; show some 136 = some (Bc 136 _).size; rw [Bc_size]) ?_
        rename_i K hK
        refine hK _ _ ?_
        clear hK K hclr hsl
        rw [Array.toArray_toList]
        gi_wp2_with fail
        refine RoundIn.mono HR.out ?_
        have hqe := HG.out.2
        clear HR hyy HG
        rintro e Y (⟨rfl, hj, hkp, _⟩ | ⟨rfl, hj, _⟩)
        · clear hkp
          gi_wp2_with fail
          refine wpIn_label ?_
          change Exit.jump _ _ _ _ _ _
          simp only [Exit.jump]
          go_end0
          exact ⟨⟨_, rfl⟩, .inl ⟨_, rfl, by rw [List.range_succ, ← hqe]; exact hj⟩⟩
        · gi_wp2_with fail
          refine wpIn_label ?_
          change Exit.jump _ _ _ _ _ _
          simp only [Exit.jump]
          go_end0
          exact ⟨⟨_, rfl⟩, .inr ⟨_, ⟨q, rfl, by omega⟩, by rw [List.range_succ]; exact hj⟩⟩
  case pass =>
    rintro ⟨tm, df⟩ w' ⟨hd, pre, hp, hj⟩
    obtain rfl : df = [] := hd
    go_wp2
    simp only [Exit.jump]
    go_end0
    exact ⟨⟨_, rfl⟩, .inr ⟨_, hp, hj⟩⟩
theorem pieces_seq (n n₀ A : Nat) (ls : List Sl) (x0 : Option Addr) (cap0 : Nat) (hn : 1 ≤ n) (hls : ls.length ≤ 1000000) (w : World) (hA : Blk w A 45 #[.slice x0 ls.length cap0]) :
    SeqW n Try.prog 39 #[.pointer (some ⟨A, 0, none⟩)] (fun x : Nat => #[.int .i64 (pcL (tot ls) x : Nat), .agg (Bc 136 (pcF (tot ls) (jn ls) x))]) n₀ (fun _ X => LsAt X x0 ls) (fun pre x => pre = List.range x ∧ x ≤ tot ls / 136) (fun xs => xs = List.range (tot ls / 136 + 1)) (fun pre => ∃ k, pre = List.range (k + 1) ∧ k ≤ tot ls / 136) w := fun l J Jx W hW hJ _ hBd hY h0 =>
  pieces_in n hn l A n₀ ls x0 cap0 hls J Jx W (hA.keep hW) hJ hBd hY h0
end Go.Proofs.Ytfknfopdinkmkaa
