/- account: small functions; an entry told, laid. -/
import Derived.Test.YtcplhalgjjhmdaaAca
import Derived.Test.YtcplhalgjjhmdaaRc
import Derived.Test.YtcplhalgjjhmdaaSth
import Derived.Laws.CopyOwn
namespace Go.Proofs.Ytcplhalgjjhmdaa
open Go.RowKit Go.Shelf Go.ChangeMaps Go.MapKept

/-- An address by its last byte. -/
def aofL (n : Nat) : List Nat := List.replicate 19 0 ++ [n]
theorem aofL_ad {n : Nat} (h : n < 256) : Ad (aofL n) := by
  refine ⟨rfl, fun x hx => ?_⟩
  unfold aofL at hx
  rcases List.mem_append.1 hx with h1 | h1
  · rw [List.eq_of_mem_replicate h1]; omega
  · simp at h1; omega
theorem aofL_lit (n : Nat) : adC (aofL n) = #[.int .u8 0, .int .u8 0, .int .u8 0, .int .u8 0, .int .u8 0, .int .u8 0, .int .u8 0, .int .u8 0, .int .u8 0, .int .u8 0, .int .u8 0, .int .u8 0, .int .u8 0, .int .u8 0, .int .u8 0, .int .u8 0, .int .u8 0, .int .u8 0, .int .u8 0, .int .u8 (n : Nat)] := adC_lit 0 0 0 0 0 0 0 0 0 0 0 0 0 0 0 0 0 0 0 n
def zadC : Array Value := #[.int .u8 0, .int .u8 0, .int .u8 0, .int .u8 0, .int .u8 0, .int .u8 0, .int .u8 0, .int .u8 0, .int .u8 0, .int .u8 0, .int .u8 0, .int .u8 0, .int .u8 0, .int .u8 0, .int .u8 0, .int .u8 0, .int .u8 0, .int .u8 0, .int .u8 0, .int .u8 0]
theorem zadC_lit : zadC = #[.int .u8 0, .int .u8 0, .int .u8 0, .int .u8 0, .int .u8 0, .int .u8 0, .int .u8 0, .int .u8 0, .int .u8 0, .int .u8 0, .int .u8 0, .int .u8 0, .int .u8 0, .int .u8 0, .int .u8 0, .int .u8 0, .int .u8 0, .int .u8 0, .int .u8 0, .int .u8 0] := rfl
theorem zadC_size : zadC.size = 20 := rfl
attribute [irreducible] zadC
theorem ad_one (a : List Nat) : (adC a).all (·.oneCell') = true := by unfold adC; exact all_oneCell_toArray (bvs_one a)
set_option maxRecDepth 100000 in
set_option maxHeartbeats 4000000 in
theorem aof_any (n : Nat) (hn : n < 256) (w : World) : Calls Try.prog 8 #[.int .u8 n] w fun e w' => e = .returned (.agg (adC (aofL n))) ∧ Below w.heap.size w w' := by
  have HA := Lib.hid (aofL_ad hn)
  have HL := Lib.hid (aofL_lit n)
  clear hn
  go_enter Try.func8, Try.ntmps8
  go_upto_region 3 with fail
  rw [← zadC_lit, ← HL.out]
  obtain ⟨X, hX⟩ : ∃ X, (w.alloc (.cells zadC 28)).alloc (.cells (adC (aofL n)) 28) = X := ⟨_, rfl⟩
  have b1 : Blk X w.heap.size 28 zadC := by rw [← hX]; exact (Blk.new w _ _).alloc _
  have b2 : Blk X (w.heap.size + 1) 28 (adC (aofL n)) := by rw [← hX]; exact Blk.newS w _ _ _
  have hW : Below w.heap.size w X := by rw [← hX]; exact balloc (balloc (Below.refl _ _) _) _
  rw [hX]
  clear hX
  refine wp_region_lit ?_
  refine wpList_load_midA rfl 28 (.tmp 3) rfl (w.heap.size + 1) 0 rfl (adC (aofL n)) _ b2.range und_addr rfl (by rw [info_addr, adC_size HA.out]) ?_
  refine wpList_store_row rfl 28 (.tmp 2) (.tmp 6) rfl w.heap.size (adC (aofL n)) rfl rfl 28 zadC b1 (by rw [info_addr, adC_size HA.out]) (by rw [zadC_size, adC_size HA.out]) (ad_one _) (wpList_nil ?_)
  have hgr : Blk (X.setRow w.heap.size (adC (aofL n))) w.heap.size 28 (adC (aofL n)) := setRow_heap _ _ _ _ _ _ b1
  have HE := Lib.hid (And.intro hgr (hW.trans (⟨rfl, rfl, rfl, by simp, fun k hk => setRow_other _ _ _ _ (by omega)⟩ : Below w.heap.size X (X.setRow w.heap.size (adC (aofL n))))))
  clear b1 b2 hgr hW HL
  generalize X.setRow w.heap.size (adC (aofL n)) = Z at HE ⊢
  go_wp2_with fail
  exact ⟨rfl, _, results_cell_row rfl _ _ w.heap.size 28 (adC (aofL n)) (0, 0) _ rfl HE.out.1 und_addr rfl (by rw [info_addr, adC_size HA.out]), rfl, HE.out.2⟩
theorem anum_any (n : Int) (w : World) : Calls Try.prog 9 #[.int .i64 n] w fun e w' => e = .returned (.int .i64 n) ∧ w = w' := by
  go_enter Try.func9, Try.ntmps9
  go_wp2_with fail
  go_ret
  exact ⟨rfl, rfl⟩
theorem und_ens : Try.prog.underlying 65 = some (.map 28 73) := by kernel_rfl
theorem eqAcNil (b : Option Nat) (X : World) : (binOp .eql 65 (.map b) (.map none)).run Try.prog X = .ok (.bool b.isNone) X := run_eql_map_nil_sl X _ _ _ b und_ens
set_option maxRecDepth 100000 in
theorem anone_not (p b : Nat) (w : World) (h : Blk w p 67 #[.map (some b)]) : Calls Try.prog 22 #[.pointer (some ⟨p, 0, none⟩)] w fun e w' => e = .returned (.bool false) ∧ w = w' := by
  have c0 := cell_of_row _ _ 0 _ _ _ h
  have hq := eqAcNil (some b)
  clear h
  go_enter Try.func22, Try.ntmps22
  go_wp2_with fail
  go_ret
  exact ⟨rfl, rfl⟩
theorem anew_any (w : World) : Calls Try.prog 6 #[] w fun e w' => ∃ p b, e = .returned (.pointer (some ⟨p, 0, none⟩)) ∧ Blk w' p 67 #[.map (some b)] ∧ GMp enD w' b (fun _ => none) ∧ w.heap.size ≤ p ∧ w.heap.size ≤ b ∧ p ≠ b ∧ Below w.heap.size w w' := by
  have hmk : ∀ X : World, (Instr.makeMap 65 none).run Try.prog X = .ok (.map (some X.heap.size)) (X.alloc (.map #[] 0)) := fun X => by simp [Instr.makeMap, go_sem, Result.andThen]
  go_enter Try.func6, Try.ntmps6
  go_wp2_with fail
  go_ret
  have h1 := GMp.made enD w 0
  have b1 := balloc (Below.refl (w.alloc (.map #[] 0)).heap.size (w.alloc (.map #[] 0))) (.cells #[.map (some w.heap.size)] 67)
  have hN := Blk.new (w.alloc (.map #[] 0)) 67 #[.map (some w.heap.size)]
  rw [World.size_alloc] at hN
  exact ⟨_, _, rfl, hN, h1.keep b1, by omega, by omega, by omega, balloc (balloc (Below.refl _ _) _) _⟩
theorem info_en : (Try.prog.info? 73).map (·.size) = some 8 := by kernel_rfl
noncomputable def enF (i : Nat) : Field := match Try.prog.underlying 73 with
  | some (.struct fs) => (fs[i]?).getD default
  | _ => default
theorem unden : Try.prog.underlying 73 = some (.struct #[enF 0, enF 1]) := by kernel_rfl
theorem enF0 : (enF 0).type = 70 ∧ (enF 0).offset = 0 ∧ (enF 0).name = "body" := ⟨by kernel_rfl, by kernel_rfl, by kernel_rfl⟩
theorem enF1 : (enF 1).type = 59 ∧ (enF 1).offset = 7 ∧ (enF 1).name = "slots" := ⟨by kernel_rfl, by kernel_rfl, by kernel_rfl⟩
noncomputable def boF (i : Nat) : Field := match Try.prog.underlying 70 with
  | some (.struct fs) => (fs[i]?).getD default
  | _ => default
theorem undbo : Try.prog.underlying 70 = some (.struct #[boF 0, boF 1, boF 2]) := by kernel_rfl
theorem boF0 : (boF 0).type = 36 ∧ (boF 0).offset = 0 ∧ (boF 0).name = "balance" := ⟨by kernel_rfl, by kernel_rfl, by kernel_rfl⟩
theorem boF1 : (boF 1).type = 31 ∧ (boF 1).offset = 5 ∧ (boF 1).name = "nonce" := ⟨by kernel_rfl, by kernel_rfl, by kernel_rfl⟩
theorem boF2 : (boF 2).type = 9 ∧ (boF 2).offset = 6 ∧ (boF 2).name = "code" := ⟨by kernel_rfl, by kernel_rfl, by kernel_rfl⟩
theorem enC_one (e : En) : (enC e).all (·.oneCell') = true := by
  obtain ⟨v, n, c, o⟩ := e
  cases o <;> simp [enC, ptV, Value.oneCell']
set_option maxRecDepth 100000 in
set_option maxHeartbeats 4000000 in
theorem at_any16 (b : Nat) (m : List Nat → Option En) (a : List Nat) (ha : Ad a) (w : World) (h : GMp enD w b m) :
    Calls Try.prog 25 #[.map (some b), .agg (adC a)] w fun e w' => e = .returned (.agg (enC (glk zE m a))) ∧ Below w.heap.size w w' := by
  obtain ⟨zz, hzz⟩ : ∃ z : Array Value, #[.int .u64 0, .int .u64 0, .int .u64 0, .int .u64 0, .int .u64 0, .int .u64 0, .string ⟨#[]⟩, .pointer none] = z := ⟨_, rfl⟩
  obtain ⟨X, hX⟩ : ∃ X, (w.alloc (.cells (adC a) 28)).alloc (.cells zz 73) = X := ⟨_, rfl⟩
  have b1 : Blk X w.heap.size 28 (adC a) := by rw [← hX]; exact (Blk.new w _ _).alloc _
  have b2 : Blk X (w.heap.size + 1) 73 zz := by rw [← hX]; exact Blk.newS w _ _ _
  have hW : Below w.heap.size w X := by rw [← hX]; exact balloc (balloc (Below.refl _ _) _) _
  obtain ⟨E, hE⟩ : ∃ E, enC (glk zE m a) = E := ⟨_, rfl⟩
  have hlook := (h.keep hW).look enK zeroEn und_ens a ha false
  replace hlook : (Instr.lookup 65 (.map (some b)) (.agg (adC a)) false).run Try.prog X = .ok (.agg E) X := by rw [← hE]; exact hlook
  have hEs : E.size = 8 ∧ E.all (·.oneCell') = true := by rw [← hE]; exact ⟨rfl, enC_one _⟩
  have HX := Lib.hid (And.intro hX (And.intro b1 (And.intro b2 hW)))
  have HE := Lib.hid hEs
  have HA := Lib.hid ha
  have HZ := Lib.hid (And.intro hzz (show zz.size = 8 by rw [← hzz]; rfl))
  rw [hE]
  clear hX b1 b2 hW hE hEs h ha hzz
  go_enter Try.func25, Try.ntmps25
  go_upto_region 1 with fail
  rw [HZ.out.1, HX.out.1]
  refine wp_region_lit ?_
  refine wpList_plain rfl fun K hK => ?_; go_simp; refine hK _ _ ?_; clear hK K
  refine wpList_load_midA rfl 28 (.tmp 3) rfl w.heap.size 0 rfl (adC a) _ HX.out.2.1.range und_addr rfl (by rw [info_addr, adC_size HA.out]) ?_
  refine wpList_plain rfl fun K hK => ?_; go_simp; refine hK _ _ ?_; clear hK K
  refine wpList_store_row rfl 73 (.tmp 4) (.tmp 7) rfl (w.heap.size + 1) E rfl rfl 73 zz HX.out.2.2.1 (by rw [info_en, HE.out.1]) (by rw [HZ.out.2, HE.out.1]) HE.out.2 (wpList_nil ?_)
  have hgr : Blk (X.setRow (w.heap.size + 1) E) (w.heap.size + 1) 73 E := setRow_heap _ _ _ _ _ _ HX.out.2.2.1
  have HR := Lib.hid (And.intro hgr (show Below w.heap.size w (X.setRow (w.heap.size + 1) E) from below_setRow HX.out.2.2.2 (by omega) E))
  clear hgr hlook
  generalize X.setRow (w.heap.size + 1) E = Z at HR ⊢
  go_wp2_with fail
  exact ⟨rfl, _, results_cell_row rfl _ _ (w.heap.size + 1) 73 E (0, 0) _ rfl HR.out.1 unden rfl (by rw [info_en, HE.out.1]), rfl, HR.out.2⟩
end Go.Proofs.Ytcplhalgjjhmdaa
