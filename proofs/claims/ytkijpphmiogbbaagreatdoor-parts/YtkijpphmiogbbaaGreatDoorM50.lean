import Derived.Test.YtkijpphmiogbbaaGreatDoorRows
import Derived.ProofKit
import Derived.JoinedOf
import Derived.Test.YtkijpphmiogbbaaGreatDoorM49
namespace Go.Proofs.YtkijpphmiogbbaaGreatDoor
open Go

theorem parts_named : Tryz.pinned.checked.prog.funcNamed Rows.partsRow.func = some 7 := by kernel_rfl
/-- All that it comes to by plain names: reckoned once. -/
def parts_list : List Nat := [7, 11, 12, 13, 14, 15, 20, 22, 21, 23, 16, 24, 43, 93, 181, 180, 101, 186, 274, 187, 275, 338, 370, 339, 340, 99, 185, 273, 44, 94, 182, 268, 45, 95, 183, 269, 270, 271, 272, 335, 336, 337, 96, 25, 46, 97, 26, 47, 98, 184, 48, 27, 49, 100, 17, 28, 50, 51, 52, 53, 102, 188, 189, 276, 341, 371, 372, 342, 373, 280, 343, 277, 109, 198, 293, 199, 190, 191, 278, 283, 344, 279, 135, 133, 122, 125, 103, 192, 281, 282, 104, 193, 284, 285, 54, 105, 194, 286, 200, 106, 195, 288, 287, 55, 107, 196, 289, 290, 345, 108, 197, 291, 292, 346, 56, 110, 111, 201, 57, 112, 113, 202, 58, 114, 203, 205, 115, 204, 294, 206, 116, 117, 118, 119, 120, 121, 59, 29, 60, 123, 124, 61, 30, 62, 126, 63, 31, 64, 65, 127, 207, 295, 128, 208, 209, 210, 66, 129, 130, 211, 67, 131, 68, 132, 32, 69, 134, 70, 33, 71, 136, 137, 72, 34, 73, 138, 139, 74, 35, 75, 140, 212, 213, 297, 296, 298, 300, 347, 299, 302, 350, 376, 348, 374, 349, 375, 399, 408, 409, 400, 401, 402, 301, 76, 36, 77, 18, 37, 78, 142, 143, 144, 215, 217, 216, 218, 303, 236, 314, 351, 317, 219, 220, 304, 305, 352, 377, 378, 379, 380, 381, 382, 383, 403, 384, 404, 385, 386, 405, 387, 406, 388, 389, 353, 354, 356, 355, 357, 390, 391, 392, 407, 393, 394, 221, 306, 223, 222, 224, 308, 307, 358, 395, 309, 141, 214, 79, 145, 146, 147, 148, 225, 149, 38, 80, 150, 151, 226, 310, 227, 238, 311, 229, 312, 228, 230, 313, 315, 359, 81, 152, 231, 153, 39, 82, 154, 155, 232, 233, 234, 235, 316, 360, 83, 156, 237, 40, 84, 157, 158, 159, 239, 318, 361, 362, 241, 321, 364, 365, 396, 398, 397, 240, 320, 319, 363, 243, 242, 244, 245, 246, 322, 323, 332, 330, 369, 328, 324, 85, 160, 247, 161, 162, 248, 163, 164, 165, 41, 86, 166, 167, 249, 169, 250, 263, 251, 262, 331, 264, 252, 253, 325, 261, 366, 267, 334, 326, 367, 327, 368, 265, 329, 87, 168, 88, 89, 170, 171, 254, 172, 255, 256, 257, 258, 42, 90, 173, 174, 176, 259, 260, 266, 333, 91, 175, 92, 177, 178, 179, 19]
theorem parts_closure : Tryz.pinned.checked.prog.closure 7 = parts_list := by kernel_rfl
theorem parts_loose : Tryz.pinned.checked.prog.unfollowed 7 = true := Cl.loose _ (by kernel_rfl)
set_option maxHeartbeats 40000000 in
theorem parts_cells : joinedFacts Tryz.pinned.checked.prog 7 Tryz.f7 Rows.partsSpec Rows.partsRow = true := by
  unfold joinedFacts
  rw [Cl.recurses_of _ _ parts_loose, parts_loose]
  unfold Program.inPlace Program.varsNamed
  rw [parts_closure]
  simp only [Bool.and_eq_true]
  repeat' refine And.intro ?_ ?_
  all_goals as_aux_lemma => kernel_rfl
end Go.Proofs.YtkijpphmiogbbaaGreatDoor
