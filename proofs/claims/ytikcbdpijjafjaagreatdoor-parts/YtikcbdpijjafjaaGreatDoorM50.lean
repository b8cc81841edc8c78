import Derived.Test.YtikcbdpijjafjaaGreatDoorRows
import Derived.ProofKit
import Derived.JoinedOf
import Derived.Test.YtikcbdpijjafjaaGreatDoorM49
namespace Go.Proofs.YtikcbdpijjafjaaGreatDoor
open Go

theorem parts_named : Tryz.pinned.checked.prog.funcNamed Rows.partsRow.func = some 7 := by kernel_rfl
/-- All that it comes to by plain names: reckoned once. -/
def parts_list : List Nat := [7, 9, 10, 11, 12, 13, 18, 20, 19, 21, 14, 22, 41, 91, 173, 172, 99, 178, 256, 179, 257, 321, 356, 322, 323, 97, 177, 255, 42, 92, 174, 250, 43, 93, 175, 251, 252, 253, 254, 318, 319, 320, 94, 23, 44, 95, 24, 45, 96, 176, 46, 25, 47, 98, 15, 26, 48, 49, 50, 51, 100, 180, 181, 258, 324, 357, 358, 325, 359, 262, 326, 259, 107, 190, 275, 191, 182, 183, 260, 265, 327, 261, 133, 131, 120, 123, 101, 184, 263, 264, 102, 185, 266, 267, 52, 103, 186, 268, 192, 104, 187, 270, 269, 53, 105, 188, 271, 272, 328, 106, 189, 273, 274, 329, 54, 108, 109, 193, 55, 110, 111, 194, 56, 112, 195, 197, 113, 196, 276, 198, 114, 115, 116, 117, 118, 119, 57, 27, 58, 121, 122, 59, 28, 60, 124, 61, 29, 62, 63, 125, 199, 277, 126, 200, 201, 202, 64, 127, 128, 203, 65, 129, 66, 130, 30, 67, 132, 68, 31, 69, 134, 135, 70, 32, 71, 136, 137, 72, 33, 73, 138, 204, 205, 279, 278, 280, 282, 330, 281, 284, 333, 362, 331, 360, 332, 361, 386, 395, 396, 387, 388, 389, 283, 74, 34, 75, 16, 35, 76, 140, 141, 142, 207, 209, 208, 210, 285, 228, 296, 334, 299, 211, 212, 286, 287, 335, 363, 364, 365, 366, 367, 368, 369, 390, 370, 391, 371, 372, 392, 373, 393, 374, 375, 336, 337, 339, 338, 340, 376, 377, 378, 394, 379, 380, 213, 288, 215, 214, 216, 290, 289, 341, 381, 291, 139, 206, 77, 143, 144, 145, 146, 217, 147, 36, 78, 148, 149, 218, 292, 219, 230, 293, 221, 294, 220, 222, 295, 297, 342, 79, 150, 223, 151, 37, 80, 152, 153, 224, 225, 226, 227, 298, 343, 81, 154, 229, 38, 82, 155, 156, 157, 231, 300, 344, 345, 233, 303, 347, 348, 382, 384, 383, 232, 302, 301, 346, 235, 234, 236, 237, 238, 304, 305, 349, 350, 385, 314, 306, 83, 158, 239, 159, 160, 240, 161, 162, 163, 39, 84, 85, 164, 165, 241, 307, 242, 308, 351, 309, 243, 244, 310, 317, 352, 311, 353, 312, 354, 313, 355, 315, 316, 86, 87, 166, 167, 245, 168, 246, 247, 248, 249, 40, 88, 89, 90, 169, 170, 171, 17]
theorem parts_closure : Tryz.pinned.checked.prog.closure 7 = parts_list := by kernel_rfl
theorem parts_loose : Tryz.pinned.checked.prog.unfollowed 7 = true := Cl.loose _ (by kernel_rfl)
set_option maxHeartbeats 40000000 in
theorem parts_cells : joinedFacts Tryz.pinned.checked.prog 7 Tryz.f7 Rows.partsSpec Rows.partsRow = true := by
  unfold joinedFacts
  rw [Cl.recurses_of _ _ parts_loose, parts_loose]
  unfold Program.inPlace Program.varsNamed
  rw [parts_closure]
  simp only [Bool.and_eq_true]
  repeat' refine And.intro ?_ ?_
  all_goals as_aux_lemma => kernel_rfl
end Go.Proofs.YtikcbdpijjafjaaGreatDoor
