/- account: an entry compared with none; put. -/
import Derived.Test.YtcplhalgjjhmdaaAcb
namespace Go.Proofs.Ytcplhalgjjhmdaa
open Go.RowKit Go.Shelf Go.ChangeMaps Go.MapKept

theorem equalIn_val (d : Nat) (n a m b : Nat) (w : World) : (Op.equalIn (d + 1 + 1 + 1) 36 (vV n a) (vV m b)).run Try.prog w = .ok (((List.range 4).all fun j => lb n j == lb m j) && (a == b)) w := by
  have hf : Try.prog.fieldsOf 36 = #[vaF 0, vaF 1] := by unfold Program.fieldsOf; rw [undva]
  have h1 := part_word n a
  have h2 := part_word m b
  have h3 : ∀ w, (part 34 (vA n a) 4).run Try.prog w = .ok (.int .u64 (a : Nat)) w := fun w => run_part_plain w (by kernel_rfl) rfl
  have h4 : ∀ w, (part 34 (vA m b) 4).run Try.prog w = .ok (.int .u64 (b : Nat)) w := fun w => run_part_plain w (by kernel_rfl) rfl
  have h5 := equalIn_word d n m
  rw [run_equalIn_struct w (d + 1 + 1) _ _ _ (by rw [hf]; exact undva) (by kernel_rfl), hf]
  simp only [Op.eqFields, vaFn0.1, vaFn0.2.1, vaFn0.2.2, vaFn1.1, vaFn1.2.1, vaFn1.2.2]
  rw [if_pos (by decide), if_pos (by decide)]
  simp only [Sem.run_bind, h1, h2, h3, h4, Result.andThen_ok, Sem.run_ite, Sem.run_pure]
  rw [h5]
  simp only [Result.andThen_ok, run_equalIn_int _ (d + 1) _ _ _ _ _ und_lab, int_beq]
  cases ((List.range 4).all fun j => lb n j == lb m j) <;> cases (a == b) <;> simp
theorem part_val (e : En) (w : World) : (part 36 (boC e) 0).run Try.prog w = .ok (vP e.1) w := by
  simp [part, isAgg, run_underlying undva]
theorem part_body (e : En) (w : World) : (part 70 (enC e) 0).run Try.prog w = .ok (.agg (boC e)) w := by
  simp [part, isAgg, run_underlying undbo]
theorem und_ps : Try.prog.underlying 59 = some (.pointer 87) := by kernel_rfl
theorem part_ptr (e : En) (w : World) : (part 59 (enC e) 7).run Try.prog w = .ok (ptV e.2.2.2) w := by
  simp [part, isAgg, run_underlying und_ps]
theorem coS_nil (l : List Nat) : ((coS l).toList == (⟨#[]⟩ : ByteArray).toList) = decide (l = []) := by
  have h : (coS l).toList = l.map UInt8.ofNat := by unfold coS; simp [go_sem]
  rw [h]
  cases l <;> simp [go_sem]
/-- The entry of nothing, as it is built. -/
def zlA : Array Value := #[.int .u64 0, .int .u64 0, .int .u64 0, .int .u64 0, .int .u64 0, .int .u64 0, .string ⟨#[]⟩, .pointer none]
theorem zlA_eq : zlA = enC zE := by simp only [zE, enC, lb0]; rfl
theorem eqBody_run (e : En) (d : Nat) (w : World) : (Op.equalIn (d + 1 + 1 + 1 + 1) 70 (.agg (boC e)) (.agg (boC zE))).run Try.prog w = .ok ((((List.range 4).all fun j => lb e.1.1 j == lb 0 j) && (e.1.2 == 0)) && ((e.2.1 == 0) && decide (e.2.2.1 = []))) w := by
  have hf : Try.prog.fieldsOf 70 = #[boF 0, boF 1, boF 2] := by unfold Program.fieldsOf; rw [undbo]
  have h1 := part_val e
  have h2 := part_val zE
  have h3 : ∀ w, (part 31 (boC e) 5).run Try.prog w = .ok (.int .u64 (e.2.1 : Nat)) w := fun w => run_part_plain w (by kernel_rfl) rfl
  have h4 : ∀ w, (part 31 (boC zE) 5).run Try.prog w = .ok (.int .u64 ((0 : Nat) : Int)) w := fun w => run_part_plain w (by kernel_rfl) rfl
  have h5 : ∀ w, (part 9 (boC e) 6).run Try.prog w = .ok (.string (coS e.2.2.1)) w := fun w => run_part_plain w (by kernel_rfl) rfl
  have h6 : ∀ w, (part 9 (boC zE) 6).run Try.prog w = .ok (.string ⟨#[]⟩) w := fun w => run_part_plain w (by kernel_rfl) rfl
  have h7 := equalIn_val d e.1.1 e.1.2 0 0
  rw [run_equalIn_struct w (d + 1 + 1 + 1) _ _ _ (by rw [hf]; exact undbo) (by kernel_rfl), hf]
  simp only [Op.eqFields, boF0.1, boF0.2.1, boF0.2.2, boF1.1, boF1.2.1, boF1.2.2, boF2.1, boF2.2.1, boF2.2.2]
  rw [if_pos (by decide), if_pos (by decide), if_pos (by decide)]
  simp only [Sem.run_bind, h1, h2, h3, h4, h5, h6, Result.andThen_ok, Sem.run_ite, Sem.run_pure]
  rw [show (vP zE.1) = vV 0 0 from rfl, h7]
  simp only [Result.andThen_ok, run_equalIn_int _ (d + 1 + 1) _ _ _ _ _ (show Try.prog.underlying 31 = some (.int .u64) by kernel_rfl), run_equalIn_string _ (d + 1 + 1) _ _ _ (show Try.prog.underlying 9 = some .string by kernel_rfl), coS_nil, int_beq]
  cases ((List.range 4).all fun j => lb e.1.1 j == lb 0 j) <;> cases (e.1.2 == 0) <;> cases (e.2.1 == 0) <;> cases (decide (e.2.2.1 = [])) <;> simp
theorem eqEn_zero (e : En) (he : okE e) (w : World) : (binOp .eql 73 (.agg (enC e)) (.agg zlA)).run Try.prog w = .ok (.bool (decide (e = zE))) w := by
  have hf : Try.prog.fieldsOf 73 = #[enF 0, enF 1] := by unfold Program.fieldsOf; rw [unden]
  have h1 := part_body e
  have h2 := part_body zE
  have h3 := part_ptr e
  have h4 : ∀ w, (part 59 (enC zE) 7).run Try.prog w = .ok (.pointer none) w := part_ptr zE
  have h5 := eqBody_run e 9995
  have hp : Try.prog.underlying 59 = some (.pointer (Try.prog.pointee 59)) := by kernel_rfl
  rw [zlA_eq, run_eql_struct, show (10000 : Nat) = 9999 + 1 from rfl, run_equalIn_struct w 9999 _ _ _ (by rw [hf]; exact unden) (by kernel_rfl), hf]
  simp only [Op.eqFields, enF0.1, enF0.2.1, enF0.2.2, enF1.1, enF1.2.1, enF1.2.2]
  rw [if_pos (by decide), if_pos (by decide)]
  simp only [Sem.run_bind, h1, h2, h3, h4, Result.andThen_ok, Sem.run_ite, Sem.run_pure]
  rw [show (9999 : Nat) = 9995 + 1 + 1 + 1 + 1 from rfl, h5, all4 e.1.1 0 he.1.1 (by decide)]
  simp only [Result.andThen_ok, show (9995 + 1 + 1 + 1 + 1 : Nat) = 9998 + 1 from rfl, run_equalIn_pointer_nil _ 9998 _ _ hp]
  obtain ⟨⟨v, a⟩, n, c, o⟩ := e
  have : decide ((((v, a), n, c, o) : En) = zE) = (((v == 0) && (a == 0)) && ((n == 0) && decide (c = [])) && o.isNone) := by
    rw [Bool.eq_iff_iff]
    simp [zE, Prod.ext_iff, and_assoc]
  rw [this]
  simp only [Option.isNone_map]
  cases (v == 0) <;> cases (a == 0) <;> cases (n == 0) <;> cases (decide (c = [])) <;> cases o <;> simp
end Go.Proofs.Ytcplhalgjjhmdaa
