import Derived.Test.YtlkhgamhhblmgaaDoorMtabG
namespace Go.Proofs.YtlkhgamhhblmgaaDoor
open Go.RowKit
set_option maxRecDepth 1000000
theorem mtab65_0_0 : longB 65 (textsOf 0 (14 * 0) 14) = true := by kernel_rfl
theorem mtab65_0_1 : longB 65 (textsOf 0 (14 * 1) 14) = true := by kernel_rfl
theorem mtab65_0_2 : longB 65 (textsOf 0 (14 * 2) 14) = true := by kernel_rfl
theorem mtab65_0_3 : longB 65 (textsOf 0 (14 * 3) 14) = true := by kernel_rfl
theorem mtab65_0_4 : longB 65 (textsOf 0 (14 * 4) 14) = true := by kernel_rfl
theorem mtab65_1_0 : longB 65 (textsOf 1 (14 * 0) 14) = true := by kernel_rfl
theorem mtab65_1_1 : longB 65 (textsOf 1 (14 * 1) 14) = true := by kernel_rfl
theorem mtab65_1_2 : longB 65 (textsOf 1 (14 * 2) 14) = true := by kernel_rfl
theorem mtab65_1_3 : longB 65 (textsOf 1 (14 * 3) 14) = true := by kernel_rfl
theorem mtab65_1_4 : longB 65 (textsOf 1 (14 * 4) 14) = true := by kernel_rfl
theorem mtab65_2_0 : longB 65 (textsOf 2 (14 * 0) 14) = true := by kernel_rfl
theorem mtab65_2_1 : longB 65 (textsOf 2 (14 * 1) 14) = true := by kernel_rfl
theorem mtab65_2_2 : longB 65 (textsOf 2 (14 * 2) 14) = true := by kernel_rfl
theorem mtab65_2_3 : longB 65 (textsOf 2 (14 * 3) 14) = true := by kernel_rfl
theorem mtab65_2_4 : longB 65 (textsOf 2 (14 * 4) 14) = true := by kernel_rfl
theorem mtab65_3_0 : longB 65 (textsOf 3 (14 * 0) 14) = true := by kernel_rfl
theorem mtab65_3_1 : longB 65 (textsOf 3 (14 * 1) 14) = true := by kernel_rfl
theorem mtab65_3_2 : longB 65 (textsOf 3 (14 * 2) 14) = true := by kernel_rfl
theorem mtab65_3_3 : longB 65 (textsOf 3 (14 * 3) 14) = true := by kernel_rfl
theorem mtab65_3_4 : longB 65 (textsOf 3 (14 * 4) 14) = true := by kernel_rfl
theorem mtab65 : ApartAt 65 := tab_long 65 (by omega) (by decide) fun p c hp hc =>
  match p, c, hp, hc with
  | 0, 0, _, _ => mtab65_0_0
  | 0, 1, _, _ => mtab65_0_1
  | 0, 2, _, _ => mtab65_0_2
  | 0, 3, _, _ => mtab65_0_3
  | 0, 4, _, _ => mtab65_0_4
  | 1, 0, _, _ => mtab65_1_0
  | 1, 1, _, _ => mtab65_1_1
  | 1, 2, _, _ => mtab65_1_2
  | 1, 3, _, _ => mtab65_1_3
  | 1, 4, _, _ => mtab65_1_4
  | 2, 0, _, _ => mtab65_2_0
  | 2, 1, _, _ => mtab65_2_1
  | 2, 2, _, _ => mtab65_2_2
  | 2, 3, _, _ => mtab65_2_3
  | 2, 4, _, _ => mtab65_2_4
  | 3, 0, _, _ => mtab65_3_0
  | 3, 1, _, _ => mtab65_3_1
  | 3, 2, _, _ => mtab65_3_2
  | 3, 3, _, _ => mtab65_3_3
  | 3, 4, _, _ => mtab65_3_4
  | p + 4, _, hp, _ => absurd hp (by omega)
  | _, c + 5, _, hc => absurd hc (by omega)
end Go.Proofs.YtlkhgamhhblmgaaDoor
