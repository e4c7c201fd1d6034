import Derived.Test.YtlkhgamhhblmgaaDoorMtabG
namespace Go.Proofs.YtlkhgamhhblmgaaDoor
open Go.RowKit
set_option maxRecDepth 1000000
theorem mtab1_0_0 : shortB 1 (textsOf 0 (14 * 0) 14) = true := by kernel_rfl
theorem mtab1_0_1 : shortB 1 (textsOf 0 (14 * 1) 14) = true := by kernel_rfl
theorem mtab1_0_2 : shortB 1 (textsOf 0 (14 * 2) 14) = true := by kernel_rfl
theorem mtab1_0_3 : shortB 1 (textsOf 0 (14 * 3) 14) = true := by kernel_rfl
theorem mtab1_0_4 : shortB 1 (textsOf 0 (14 * 4) 14) = true := by kernel_rfl
theorem mtab1_1_0 : shortB 1 (textsOf 1 (14 * 0) 14) = true := by kernel_rfl
theorem mtab1_1_1 : shortB 1 (textsOf 1 (14 * 1) 14) = true := by kernel_rfl
theorem mtab1_1_2 : shortB 1 (textsOf 1 (14 * 2) 14) = true := by kernel_rfl
theorem mtab1_1_3 : shortB 1 (textsOf 1 (14 * 3) 14) = true := by kernel_rfl
theorem mtab1_1_4 : shortB 1 (textsOf 1 (14 * 4) 14) = true := by kernel_rfl
theorem mtab1_2_0 : shortB 1 (textsOf 2 (14 * 0) 14) = true := by kernel_rfl
theorem mtab1_2_1 : shortB 1 (textsOf 2 (14 * 1) 14) = true := by kernel_rfl
theorem mtab1_2_2 : shortB 1 (textsOf 2 (14 * 2) 14) = true := by kernel_rfl
theorem mtab1_2_3 : shortB 1 (textsOf 2 (14 * 3) 14) = true := by kernel_rfl
theorem mtab1_2_4 : shortB 1 (textsOf 2 (14 * 4) 14) = true := by kernel_rfl
theorem mtab1_3_0 : shortB 1 (textsOf 3 (14 * 0) 14) = true := by kernel_rfl
theorem mtab1_3_1 : shortB 1 (textsOf 3 (14 * 1) 14) = true := by kernel_rfl
theorem mtab1_3_2 : shortB 1 (textsOf 3 (14 * 2) 14) = true := by kernel_rfl
theorem mtab1_3_3 : shortB 1 (textsOf 3 (14 * 3) 14) = true := by kernel_rfl
theorem mtab1_3_4 : shortB 1 (textsOf 3 (14 * 4) 14) = true := by kernel_rfl
theorem mtab1 : ApartAt 1 := tab_short 1 (by omega) fun p c hp hc =>
  match p, c, hp, hc with
  | 0, 0, _, _ => mtab1_0_0
  | 0, 1, _, _ => mtab1_0_1
  | 0, 2, _, _ => mtab1_0_2
  | 0, 3, _, _ => mtab1_0_3
  | 0, 4, _, _ => mtab1_0_4
  | 1, 0, _, _ => mtab1_1_0
  | 1, 1, _, _ => mtab1_1_1
  | 1, 2, _, _ => mtab1_1_2
  | 1, 3, _, _ => mtab1_1_3
  | 1, 4, _, _ => mtab1_1_4
  | 2, 0, _, _ => mtab1_2_0
  | 2, 1, _, _ => mtab1_2_1
  | 2, 2, _, _ => mtab1_2_2
  | 2, 3, _, _ => mtab1_2_3
  | 2, 4, _, _ => mtab1_2_4
  | 3, 0, _, _ => mtab1_3_0
  | 3, 1, _, _ => mtab1_3_1
  | 3, 2, _, _ => mtab1_3_2
  | 3, 3, _, _ => mtab1_3_3
  | 3, 4, _, _ => mtab1_3_4
  | p + 4, _, hp, _ => absurd hp (by omega)
  | _, c + 5, _, hc => absurd hc (by omega)
end Go.Proofs.YtlkhgamhhblmgaaDoor
