/-
  Texts of one proof, joined: each has its own namespace.
-/
import Derived.Test.YtjlkmfijkhjjkaaDoorBFnHints10
import Derived.Test.YtjlkmfijkhjjkaaDoorBFnHints11
import Derived.Test.YtjlkmfijkhjjkaaDoorBFnHints12
import Derived.Test.YtjlkmfijkhjjkaaDoorBFnHints13
/-
  The big region of the law of hints: its order.
-/
namespace Go.Proofs.YtjlkmfijkhjjkaaDoor
set_option maxRecDepth 20000
open Go.RowKit

theorem hlOrder : mixHB (opsOf Tryd.f3 13) [(0, false), (1, false), (2, false), (3, false), (4, false), (5, true), (6, false), (7, false), (8, false), (9, false), (10, false), (11, false), (12, false), (13, false), (14, true), (15, false), (16, true), (17, false), (18, false), (19, false), (20, false), (21, false), (22, false), (23, false), (24, false), (25, true), (26, false), (27, false), (28, false), (29, false), (30, false), (31, false), (32, false), (33, false), (34, false), (35, true), (36, false), (37, true), (38, false), (39, false), (40, false), (41, false), (42, false), (43, false), (44, false), (45, false), (46, false), (47, true), (48, false), (49, false), (50, false), (51, false), (52, false), (53, false), (54, false), (55, false), (56, false), (57, false), (58, true), (59, false), (60, true), (61, false), (62, false), (63, false), (64, false), (65, false), (66, false), (67, false), (68, true), (69, false), (70, false), (71, false), (72, false), (73, false), (74, false), (75, false), (76, false), (77, true), (78, false), (79, true), (80, false), (81, false), (82, false), (83, false), (85, false), (84, true), (86, true), (87, false), (88, false), (89, false), (90, false), (91, false), (93, false), (94, false), (92, true), (95, true), (96, false), (97, false), (98, false), (99, false), (101, false), (100, true), (102, true), (103, false), (104, false)] = true := by
  have e : ([(0, false), (1, false), (2, false), (3, false), (4, false), (5, true), (6, false), (7, false), (8, false), (9, false), (10, false), (11, false), (12, false), (13, false), (14, true), (15, false), (16, true), (17, false), (18, false), (19, false), (20, false), (21, false), (22, false), (23, false), (24, false), (25, true), (26, false), (27, false), (28, false), (29, false), (30, false), (31, false), (32, false), (33, false), (34, false), (35, true), (36, false), (37, true), (38, false), (39, false), (40, false), (41, false), (42, false), (43, false), (44, false), (45, false), (46, false), (47, true), (48, false), (49, false), (50, false), (51, false), (52, false), (53, false), (54, false), (55, false), (56, false), (57, false), (58, true), (59, false), (60, true), (61, false), (62, false), (63, false), (64, false), (65, false), (66, false), (67, false), (68, true), (69, false), (70, false), (71, false), (72, false), (73, false), (74, false), (75, false), (76, false), (77, true), (78, false), (79, true), (80, false), (81, false), (82, false), (83, false), (85, false), (84, true), (86, true), (87, false), (88, false), (89, false), (90, false), (91, false), (93, false), (94, false), (92, true), (95, true), (96, false), (97, false), (98, false), (99, false), (101, false), (100, true), (102, true), (103, false), (104, false)] : List (Nat × Bool)) = hlP0 ++ (hlP1 ++ (hlP2 ++ hlP3)) := by kernel_rfl
  have a0 : Array.replicate (opsOf Tryd.f3 13).length false = hlL0 := by kernel_rfl
  have a1 : mixAdv hlL0 hlP0 = hlL1 := by kernel_rfl
  have a2 : mixAdv hlL1 hlP1 = hlL2 := by kernel_rfl
  have a3 : mixAdv hlL2 hlP2 = hlL3 := by kernel_rfl
  have f : mixB .any (opsOf Tryd.f3 13).toArray hlL0 (hlP0 ++ (hlP1 ++ (hlP2 ++ hlP3))) = true := by
    refine mixB_append _ _ _ hlPart0 ?_
    rw [a1]
    refine mixB_append _ _ _ hlPart1 ?_
    rw [a2]
    refine mixB_append _ _ _ hlPart2 ?_
    rw [a3]
    exact hlPart3
  have g : Region.noSelect (opsOf Tryd.f3 13).toArray = true := by kernel_rfl
  have h : ((hlP0 ++ (hlP1 ++ (hlP2 ++ hlP3))).length == (opsOf Tryd.f3 13).length && (hlP0 ++ (hlP1 ++ (hlP2 ++ hlP3))).all fun x => decide (x.1 < (opsOf Tryd.f3 13).length)) = true := by kernel_rfl
  unfold mixHB
  rw [e, g, a0, f, h]
  rfl
end Go.Proofs.YtjlkmfijkhjjkaaDoor
