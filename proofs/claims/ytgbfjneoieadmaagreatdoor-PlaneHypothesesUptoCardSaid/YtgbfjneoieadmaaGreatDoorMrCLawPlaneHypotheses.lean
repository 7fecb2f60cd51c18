/-
  CasesPlaneHypotheses, in one text.
-/
import Derived.Test.YtgbfjneoieadmaaGreatDoorMrQ

set_option linter.unusedVariables false
set_option linter.unusedSimpArgs false
namespace Go.Proofs.YtgbfjneoieadmaaGreatDoor
open Go.ChangeShapes Go.WideShapes Go.ChangeAt Go.RowKit Nm Go.Abs
open Go

theorem planeHypotheses_no0 (fl : Bool) : run13 {} (yesNo 0) 8 Tryz.f8 fix9 fl = yesR := by kernel_rfl
theorem planeHypotheses_no1 (fl : Bool) : run13 {} (yesNo 1) 8 Tryz.f8 fix9 fl = yesR := by kernel_rfl
theorem planeHypotheses_no2 (fl : Bool) : run13 {} (yesNo 2) 8 Tryz.f8 fix9 fl = yesR := by kernel_rfl
theorem planeHypotheses_no3 (fl : Bool) : run13 {} (yesNo 3) 8 Tryz.f8 fix9 fl = yesR := by kernel_rfl
theorem planeHypotheses_no4 (fl : Bool) : run13 {} (yesNo 4) 8 Tryz.f8 fix9 fl = yesR := by kernel_rfl
theorem planeHypotheses_no5 (fl : Bool) : run13 {} (yesNo 5) 8 Tryz.f8 fix9 fl = yesR := by kernel_rfl
theorem planeHypotheses_no6 (fl : Bool) : run13 {} (yesNo 6) 8 Tryz.f8 fix9 fl = yesR := by kernel_rfl
theorem planeHypotheses_no7 (fl : Bool) : run13 {} (yesNo 7) 8 Tryz.f8 fix9 fl = yesR := by kernel_rfl
theorem planeHypotheses_no8 (fl : Bool) : run13 {} (yesNo 8) 8 Tryz.f8 fix9 fl = yesR := by kernel_rfl
def planeHypotheses_e0 : RE := .mul (.sub (.v 2) (.v 0)) (.sub (.v 7) (.v 5))
def planeHypotheses_e1 : RE := .mul (.sub (.v 3) (.v 1)) (.sub (.v 6) (.v 4))
def planeHypotheses_e2 : RE := .sub planeHypotheses_e0 planeHypotheses_e1
def planeHypotheses_e3 : RE := .mul (.sub (.v 2) (.v 0)) (.sub (.v 5) (.v 1))
def planeHypotheses_e4 : RE := .mul (.sub (.v 3) (.v 1)) (.sub (.v 4) (.v 0))
def planeHypotheses_e5 : RE := .sub planeHypotheses_e3 planeHypotheses_e4
def planeHypotheses_e6 : RE := .mul (.z 2) planeHypotheses_e5
def planeHypotheses_e7 : RE := .add (.sub (.v 0) (.v 2)) (.mul (.v 8) (.sub (.v 1) (.v 3)))
def planeHypotheses_e8 : RE := .mul (.z 2) planeHypotheses_e7
def planeHypotheses_e9 : RE := .div planeHypotheses_e8 (.add (.z 1) (.mul (.v 8) (.v 8)))
def planeHypotheses_e10 : RE := .add (.v 2) planeHypotheses_e9
def planeHypotheses_e11 : RE := .sub planeHypotheses_e10 (.v 0)
def planeHypotheses_e12 : RE := .mul planeHypotheses_e11 planeHypotheses_e11
def planeHypotheses_e13 : RE := .mul (.v 8) planeHypotheses_e9
def planeHypotheses_e14 : RE := .add (.v 3) planeHypotheses_e13
def planeHypotheses_e15 : RE := .sub planeHypotheses_e14 (.v 1)
def planeHypotheses_e16 : RE := .mul planeHypotheses_e15 planeHypotheses_e15
def planeHypotheses_e17 : RE := .add planeHypotheses_e12 planeHypotheses_e16
def planeHypotheses_e18 : RE := .mul (.sub (.v 2) (.v 0)) (.sub (.v 2) (.v 0))
def planeHypotheses_e19 : RE := .mul (.sub (.v 3) (.v 1)) (.sub (.v 3) (.v 1))
def planeHypotheses_e20 : RE := .add planeHypotheses_e18 planeHypotheses_e19
def planeHypotheses_e21 : RE := .mul (.sub (.v 2) (.v 0)) (.sub (.v 4) (.v 0))
def planeHypotheses_e22 : RE := .mul (.sub (.v 3) (.v 1)) (.sub (.v 5) (.v 1))
def planeHypotheses_e23 : RE := .add planeHypotheses_e21 planeHypotheses_e22
def planeHypotheses_e24 : RE := .div planeHypotheses_e23 planeHypotheses_e20
def planeHypotheses_e25 : RE := .mul (.sub (.v 3) (.v 1)) planeHypotheses_e24
def planeHypotheses_e26 : RE := .add (.v 1) planeHypotheses_e25
def planeHypotheses_e27 : RE := .sub planeHypotheses_e26 (.v 1)
def planeHypotheses_e28 : RE := .mul (.sub (.v 2) (.v 0)) planeHypotheses_e27
def planeHypotheses_e29 : RE := .mul (.sub (.v 2) (.v 0)) planeHypotheses_e24
def planeHypotheses_e30 : RE := .add (.v 0) planeHypotheses_e29
def planeHypotheses_e31 : RE := .sub planeHypotheses_e30 (.v 0)
def planeHypotheses_e32 : RE := .mul (.sub (.v 3) (.v 1)) planeHypotheses_e31
def planeHypotheses_e33 : RE := .sub planeHypotheses_e28 planeHypotheses_e32
def planeHypotheses_e34 : RE := .sub planeHypotheses_e30 (.v 4)
def planeHypotheses_e35 : RE := .mul (.sub (.v 2) (.v 0)) planeHypotheses_e34
def planeHypotheses_e36 : RE := .sub planeHypotheses_e26 (.v 5)
def planeHypotheses_e37 : RE := .mul (.sub (.v 3) (.v 1)) planeHypotheses_e36
def planeHypotheses_e38 : RE := .add planeHypotheses_e35 planeHypotheses_e37
def planeHypotheses_e39 : RE := .add planeHypotheses_e30 planeHypotheses_e34
def planeHypotheses_e40 : RE := .sub planeHypotheses_e39 (.v 4)
def planeHypotheses_e41 : RE := .mul (.sub (.v 2) (.v 0)) planeHypotheses_e40
def planeHypotheses_e42 : RE := .add planeHypotheses_e26 planeHypotheses_e36
def planeHypotheses_e43 : RE := .sub planeHypotheses_e42 (.v 5)
def planeHypotheses_e44 : RE := .mul (.sub (.v 3) (.v 1)) planeHypotheses_e43
def planeHypotheses_e45 : RE := .add planeHypotheses_e41 planeHypotheses_e44
def planeHypotheses_e46 : RE := .mul planeHypotheses_e40 (.div (.z 1) (.z 2))
def planeHypotheses_e47 : RE := .add (.v 4) planeHypotheses_e46
def planeHypotheses_e48 : RE := .mul planeHypotheses_e43 (.div (.z 1) (.z 2))
def planeHypotheses_e49 : RE := .add (.v 5) planeHypotheses_e48
def planeHypotheses_e50 : RE := .mul (.sub (.v 4) (.v 0)) (.sub (.v 7) (.v 5))
def planeHypotheses_e51 : RE := .mul (.sub (.v 5) (.v 1)) (.sub (.v 6) (.v 4))
def planeHypotheses_e52 : RE := .sub planeHypotheses_e50 planeHypotheses_e51
def planeHypotheses_e53 : RE := .div planeHypotheses_e52 planeHypotheses_e2
def planeHypotheses_e54 : RE := .mul (.sub (.v 3) (.v 1)) planeHypotheses_e53
def planeHypotheses_e55 : RE := .add (.v 1) planeHypotheses_e54
def planeHypotheses_e56 : RE := .sub planeHypotheses_e55 (.v 1)
def planeHypotheses_e57 : RE := .mul (.sub (.v 2) (.v 0)) planeHypotheses_e56
def planeHypotheses_e58 : RE := .mul (.sub (.v 2) (.v 0)) planeHypotheses_e53
def planeHypotheses_e59 : RE := .add (.v 0) planeHypotheses_e58
def planeHypotheses_e60 : RE := .sub planeHypotheses_e59 (.v 0)
def planeHypotheses_e61 : RE := .mul (.sub (.v 3) (.v 1)) planeHypotheses_e60
def planeHypotheses_e62 : RE := .sub planeHypotheses_e57 planeHypotheses_e61
def planeHypotheses_e63 : RE := .sub planeHypotheses_e55 (.v 5)
def planeHypotheses_e64 : RE := .mul (.sub (.v 6) (.v 4)) planeHypotheses_e63
def planeHypotheses_e65 : RE := .sub planeHypotheses_e59 (.v 4)
def planeHypotheses_e66 : RE := .mul (.sub (.v 7) (.v 5)) planeHypotheses_e65
def planeHypotheses_e67 : RE := .sub planeHypotheses_e64 planeHypotheses_e66
def planeHypotheses_e68 : RE := .mul (.z 2) planeHypotheses_e23
def planeHypotheses_e69 : RE := .div planeHypotheses_e68 planeHypotheses_e20
def planeHypotheses_e70 : RE := .mul (.sub (.v 3) (.v 1)) planeHypotheses_e69
def planeHypotheses_e71 : RE := .add (.v 1) planeHypotheses_e70
def planeHypotheses_e72 : RE := .sub planeHypotheses_e71 (.v 1)
def planeHypotheses_e73 : RE := .mul (.sub (.v 2) (.v 0)) planeHypotheses_e72
def planeHypotheses_e74 : RE := .mul (.sub (.v 2) (.v 0)) planeHypotheses_e69
def planeHypotheses_e75 : RE := .add (.v 0) planeHypotheses_e74
def planeHypotheses_e76 : RE := .sub planeHypotheses_e75 (.v 0)
def planeHypotheses_e77 : RE := .mul (.sub (.v 3) (.v 1)) planeHypotheses_e76
def planeHypotheses_e78 : RE := .sub planeHypotheses_e73 planeHypotheses_e77
def planeHypotheses_e79 : RE := .sub planeHypotheses_e75 (.v 4)
def planeHypotheses_e80 : RE := .mul planeHypotheses_e79 planeHypotheses_e79
def planeHypotheses_e81 : RE := .sub planeHypotheses_e71 (.v 5)
def planeHypotheses_e82 : RE := .mul planeHypotheses_e81 planeHypotheses_e81
def planeHypotheses_e83 : RE := .add planeHypotheses_e80 planeHypotheses_e82
def planeHypotheses_e84 : RE := .mul (.sub (.v 0) (.v 4)) (.sub (.v 0) (.v 4))
def planeHypotheses_e85 : RE := .mul (.sub (.v 1) (.v 5)) (.sub (.v 1) (.v 5))
def planeHypotheses_e86 : RE := .add planeHypotheses_e84 planeHypotheses_e85
def planeHypotheses_e87 : RE := .mul planeHypotheses_e20 (.sub (.v 5) (.v 1))
def planeHypotheses_e88 : RE := .mul (.sub (.v 4) (.v 0)) (.sub (.v 4) (.v 0))
def planeHypotheses_e89 : RE := .mul (.sub (.v 5) (.v 1)) (.sub (.v 5) (.v 1))
def planeHypotheses_e90 : RE := .add planeHypotheses_e88 planeHypotheses_e89
def planeHypotheses_e91 : RE := .mul planeHypotheses_e90 (.sub (.v 3) (.v 1))
def planeHypotheses_e92 : RE := .sub planeHypotheses_e87 planeHypotheses_e91
def planeHypotheses_e93 : RE := .div (.z 1) planeHypotheses_e6
def planeHypotheses_e94 : RE := .mul planeHypotheses_e92 planeHypotheses_e93
def planeHypotheses_e95 : RE := .add (.v 0) planeHypotheses_e94
def planeHypotheses_e96 : RE := .sub (.v 0) planeHypotheses_e95
def planeHypotheses_e97 : RE := .mul planeHypotheses_e96 planeHypotheses_e96
def planeHypotheses_e98 : RE := .mul planeHypotheses_e90 (.sub (.v 2) (.v 0))
def planeHypotheses_e99 : RE := .mul planeHypotheses_e20 (.sub (.v 4) (.v 0))
def planeHypotheses_e100 : RE := .sub planeHypotheses_e98 planeHypotheses_e99
def planeHypotheses_e101 : RE := .mul planeHypotheses_e100 planeHypotheses_e93
def planeHypotheses_e102 : RE := .add (.v 1) planeHypotheses_e101
def planeHypotheses_e103 : RE := .sub (.v 1) planeHypotheses_e102
def planeHypotheses_e104 : RE := .mul planeHypotheses_e103 planeHypotheses_e103
def planeHypotheses_e105 : RE := .add planeHypotheses_e97 planeHypotheses_e104
def planeHypotheses_e106 : RE := .sub (.v 2) planeHypotheses_e95
def planeHypotheses_e107 : RE := .mul planeHypotheses_e106 planeHypotheses_e106
def planeHypotheses_e108 : RE := .sub (.v 3) planeHypotheses_e102
def planeHypotheses_e109 : RE := .mul planeHypotheses_e108 planeHypotheses_e108
def planeHypotheses_e110 : RE := .add planeHypotheses_e107 planeHypotheses_e109
def planeHypotheses_e111 : RE := .sub (.v 4) planeHypotheses_e95
def planeHypotheses_e112 : RE := .mul planeHypotheses_e111 planeHypotheses_e111
def planeHypotheses_e113 : RE := .sub (.v 5) planeHypotheses_e102
def planeHypotheses_e114 : RE := .mul planeHypotheses_e113 planeHypotheses_e113
def planeHypotheses_e115 : RE := .add planeHypotheses_e112 planeHypotheses_e114
def planeHypotheses_A0 : Orc := { cmp := [((.v 0), (.v 2), 0), ((.v 1), (.v 3), 0), (planeHypotheses_e2, (.z 0), 0), (planeHypotheses_e6, (.z 0), 0), (planeHypotheses_e17, planeHypotheses_e20, 0)], ne := [((.add (.z 1) (.mul (.v 8) (.v 8))), (.z 0))] }
theorem planeHypotheses_p0 (fl : Bool) : run13 planeHypotheses_A0 yes9 8 Tryz.f8 num9 fl = yesR := by kernel_rfl
def planeHypotheses_A1 : Orc := { cmp := [((.v 0), (.v 2), 0), (planeHypotheses_e33, (.z 0), 0), (planeHypotheses_e38, (.z 0), 0), (planeHypotheses_e45, (.z 0), 0), (planeHypotheses_e47, planeHypotheses_e30, 0), (planeHypotheses_e49, planeHypotheses_e26, 0), (planeHypotheses_e2, (.z 0), -1), (planeHypotheses_e62, (.z 0), 0), (planeHypotheses_e67, (.z 0), 0), (planeHypotheses_e78, (.z 0), 0), (planeHypotheses_e83, planeHypotheses_e86, 0), (planeHypotheses_e6, (.z 0), -1), (planeHypotheses_e105, planeHypotheses_e110, 0), (planeHypotheses_e105, planeHypotheses_e115, 0), (planeHypotheses_e17, planeHypotheses_e20, 0)], ne := [((.v 1), (.v 3)), (planeHypotheses_e20, (.z 0)), ((.add (.z 1) (.mul (.v 8) (.v 8))), (.z 0))] }
theorem planeHypotheses_p1 (fl : Bool) : run13 planeHypotheses_A1 yes9 8 Tryz.f8 num9 fl = yesR := by kernel_rfl
def planeHypotheses_A2 : Orc := { cmp := [((.v 0), (.v 2), 0), (planeHypotheses_e33, (.z 0), 0), (planeHypotheses_e38, (.z 0), 0), (planeHypotheses_e45, (.z 0), 0), (planeHypotheses_e47, planeHypotheses_e30, 0), (planeHypotheses_e49, planeHypotheses_e26, 0), (planeHypotheses_e2, (.z 0), -1), (planeHypotheses_e62, (.z 0), 0), (planeHypotheses_e67, (.z 0), 0), (planeHypotheses_e78, (.z 0), 0), (planeHypotheses_e83, planeHypotheses_e86, 0), (planeHypotheses_e6, (.z 0), 0), (planeHypotheses_e17, planeHypotheses_e20, 0)], ne := [((.v 1), (.v 3)), (planeHypotheses_e20, (.z 0)), ((.add (.z 1) (.mul (.v 8) (.v 8))), (.z 0))] }
theorem planeHypotheses_p2 (fl : Bool) : run13 planeHypotheses_A2 yes9 8 Tryz.f8 num9 fl = yesR := by kernel_rfl
def planeHypotheses_A3 : Orc := { cmp := [((.v 0), (.v 2), 0), (planeHypotheses_e33, (.z 0), 0), (planeHypotheses_e38, (.z 0), 0), (planeHypotheses_e45, (.z 0), 0), (planeHypotheses_e47, planeHypotheses_e30, 0), (planeHypotheses_e49, planeHypotheses_e26, 0), (planeHypotheses_e2, (.z 0), -1), (planeHypotheses_e62, (.z 0), 0), (planeHypotheses_e67, (.z 0), 0), (planeHypotheses_e78, (.z 0), 0), (planeHypotheses_e83, planeHypotheses_e86, 0), (planeHypotheses_e6, (.z 0), 1), (planeHypotheses_e105, planeHypotheses_e110, 0), (planeHypotheses_e105, planeHypotheses_e115, 0), (planeHypotheses_e17, planeHypotheses_e20, 0)], ne := [((.v 1), (.v 3)), (planeHypotheses_e20, (.z 0)), ((.add (.z 1) (.mul (.v 8) (.v 8))), (.z 0))] }
theorem planeHypotheses_p3 (fl : Bool) : run13 planeHypotheses_A3 yes9 8 Tryz.f8 num9 fl = yesR := by kernel_rfl
def planeHypotheses_A4 : Orc := { cmp := [((.v 0), (.v 2), 0), (planeHypotheses_e33, (.z 0), 0), (planeHypotheses_e38, (.z 0), 0), (planeHypotheses_e45, (.z 0), 0), (planeHypotheses_e47, planeHypotheses_e30, 0), (planeHypotheses_e49, planeHypotheses_e26, 0), (planeHypotheses_e2, (.z 0), 0), (planeHypotheses_e78, (.z 0), 0), (planeHypotheses_e83, planeHypotheses_e86, 0), (planeHypotheses_e6, (.z 0), -1), (planeHypotheses_e105, planeHypotheses_e110, 0), (planeHypotheses_e105, planeHypotheses_e115, 0), (planeHypotheses_e17, planeHypotheses_e20, 0)], ne := [((.v 1), (.v 3)), (planeHypotheses_e20, (.z 0)), ((.add (.z 1) (.mul (.v 8) (.v 8))), (.z 0))] }
theorem planeHypotheses_p4 (fl : Bool) : run13 planeHypotheses_A4 yes9 8 Tryz.f8 num9 fl = yesR := by kernel_rfl
def planeHypotheses_A5 : Orc := { cmp := [((.v 0), (.v 2), 0), (planeHypotheses_e33, (.z 0), 0), (planeHypotheses_e38, (.z 0), 0), (planeHypotheses_e45, (.z 0), 0), (planeHypotheses_e47, planeHypotheses_e30, 0), (planeHypotheses_e49, planeHypotheses_e26, 0), (planeHypotheses_e2, (.z 0), 0), (planeHypotheses_e78, (.z 0), 0), (planeHypotheses_e83, planeHypotheses_e86, 0), (planeHypotheses_e6, (.z 0), 0), (planeHypotheses_e17, planeHypotheses_e20, 0)], ne := [((.v 1), (.v 3)), (planeHypotheses_e20, (.z 0)), ((.add (.z 1) (.mul (.v 8) (.v 8))), (.z 0))] }
theorem planeHypotheses_p5 (fl : Bool) : run13 planeHypotheses_A5 yes9 8 Tryz.f8 num9 fl = yesR := by kernel_rfl
def planeHypotheses_A6 : Orc := { cmp := [((.v 0), (.v 2), 0), (planeHypotheses_e33, (.z 0), 0), (planeHypotheses_e38, (.z 0), 0), (planeHypotheses_e45, (.z 0), 0), (planeHypotheses_e47, planeHypotheses_e30, 0), (planeHypotheses_e49, planeHypotheses_e26, 0), (planeHypotheses_e2, (.z 0), 0), (planeHypotheses_e78, (.z 0), 0), (planeHypotheses_e83, planeHypotheses_e86, 0), (planeHypotheses_e6, (.z 0), 1), (planeHypotheses_e105, planeHypotheses_e110, 0), (planeHypotheses_e105, planeHypotheses_e115, 0), (planeHypotheses_e17, planeHypotheses_e20, 0)], ne := [((.v 1), (.v 3)), (planeHypotheses_e20, (.z 0)), ((.add (.z 1) (.mul (.v 8) (.v 8))), (.z 0))] }
theorem planeHypotheses_p6 (fl : Bool) : run13 planeHypotheses_A6 yes9 8 Tryz.f8 num9 fl = yesR := by kernel_rfl
def planeHypotheses_A7 : Orc := { cmp := [((.v 0), (.v 2), 0), (planeHypotheses_e33, (.z 0), 0), (planeHypotheses_e38, (.z 0), 0), (planeHypotheses_e45, (.z 0), 0), (planeHypotheses_e47, planeHypotheses_e30, 0), (planeHypotheses_e49, planeHypotheses_e26, 0), (planeHypotheses_e2, (.z 0), 1), (planeHypotheses_e62, (.z 0), 0), (planeHypotheses_e67, (.z 0), 0), (planeHypotheses_e78, (.z 0), 0), (planeHypotheses_e83, planeHypotheses_e86, 0), (planeHypotheses_e6, (.z 0), -1), (planeHypotheses_e105, planeHypotheses_e110, 0), (planeHypotheses_e105, planeHypotheses_e115, 0), (planeHypotheses_e17, planeHypotheses_e20, 0)], ne := [((.v 1), (.v 3)), (planeHypotheses_e20, (.z 0)), ((.add (.z 1) (.mul (.v 8) (.v 8))), (.z 0))] }
theorem planeHypotheses_p7 (fl : Bool) : run13 planeHypotheses_A7 yes9 8 Tryz.f8 num9 fl = yesR := by kernel_rfl
def planeHypotheses_A8 : Orc := { cmp := [((.v 0), (.v 2), 0), (planeHypotheses_e33, (.z 0), 0), (planeHypotheses_e38, (.z 0), 0), (planeHypotheses_e45, (.z 0), 0), (planeHypotheses_e47, planeHypotheses_e30, 0), (planeHypotheses_e49, planeHypotheses_e26, 0), (planeHypotheses_e2, (.z 0), 1), (planeHypotheses_e62, (.z 0), 0), (planeHypotheses_e67, (.z 0), 0), (planeHypotheses_e78, (.z 0), 0), (planeHypotheses_e83, planeHypotheses_e86, 0), (planeHypotheses_e6, (.z 0), 0), (planeHypotheses_e17, planeHypotheses_e20, 0)], ne := [((.v 1), (.v 3)), (planeHypotheses_e20, (.z 0)), ((.add (.z 1) (.mul (.v 8) (.v 8))), (.z 0))] }
theorem planeHypotheses_p8 (fl : Bool) : run13 planeHypotheses_A8 yes9 8 Tryz.f8 num9 fl = yesR := by kernel_rfl
def planeHypotheses_A9 : Orc := { cmp := [((.v 0), (.v 2), 0), (planeHypotheses_e33, (.z 0), 0), (planeHypotheses_e38, (.z 0), 0), (planeHypotheses_e45, (.z 0), 0), (planeHypotheses_e47, planeHypotheses_e30, 0), (planeHypotheses_e49, planeHypotheses_e26, 0), (planeHypotheses_e2, (.z 0), 1), (planeHypotheses_e62, (.z 0), 0), (planeHypotheses_e67, (.z 0), 0), (planeHypotheses_e78, (.z 0), 0), (planeHypotheses_e83, planeHypotheses_e86, 0), (planeHypotheses_e6, (.z 0), 1), (planeHypotheses_e105, planeHypotheses_e110, 0), (planeHypotheses_e105, planeHypotheses_e115, 0), (planeHypotheses_e17, planeHypotheses_e20, 0)], ne := [((.v 1), (.v 3)), (planeHypotheses_e20, (.z 0)), ((.add (.z 1) (.mul (.v 8) (.v 8))), (.z 0))] }
theorem planeHypotheses_p9 (fl : Bool) : run13 planeHypotheses_A9 yes9 8 Tryz.f8 num9 fl = yesR := by kernel_rfl
def planeHypotheses_A10 : Orc := { cmp := [(planeHypotheses_e33, (.z 0), 0), (planeHypotheses_e38, (.z 0), 0), (planeHypotheses_e45, (.z 0), 0), (planeHypotheses_e47, planeHypotheses_e30, 0), (planeHypotheses_e49, planeHypotheses_e26, 0), (planeHypotheses_e2, (.z 0), -1), (planeHypotheses_e62, (.z 0), 0), (planeHypotheses_e67, (.z 0), 0), (planeHypotheses_e78, (.z 0), 0), (planeHypotheses_e83, planeHypotheses_e86, 0), (planeHypotheses_e6, (.z 0), -1), (planeHypotheses_e105, planeHypotheses_e110, 0), (planeHypotheses_e105, planeHypotheses_e115, 0), (planeHypotheses_e17, planeHypotheses_e20, 0)], ne := [((.v 0), (.v 2)), (planeHypotheses_e20, (.z 0)), ((.add (.z 1) (.mul (.v 8) (.v 8))), (.z 0))] }
theorem planeHypotheses_p10 (fl : Bool) : run13 planeHypotheses_A10 yes9 8 Tryz.f8 num9 fl = yesR := by kernel_rfl
def planeHypotheses_A11 : Orc := { cmp := [(planeHypotheses_e33, (.z 0), 0), (planeHypotheses_e38, (.z 0), 0), (planeHypotheses_e45, (.z 0), 0), (planeHypotheses_e47, planeHypotheses_e30, 0), (planeHypotheses_e49, planeHypotheses_e26, 0), (planeHypotheses_e2, (.z 0), -1), (planeHypotheses_e62, (.z 0), 0), (planeHypotheses_e67, (.z 0), 0), (planeHypotheses_e78, (.z 0), 0), (planeHypotheses_e83, planeHypotheses_e86, 0), (planeHypotheses_e6, (.z 0), 0), (planeHypotheses_e17, planeHypotheses_e20, 0)], ne := [((.v 0), (.v 2)), (planeHypotheses_e20, (.z 0)), ((.add (.z 1) (.mul (.v 8) (.v 8))), (.z 0))] }
theorem planeHypotheses_p11 (fl : Bool) : run13 planeHypotheses_A11 yes9 8 Tryz.f8 num9 fl = yesR := by kernel_rfl
def planeHypotheses_A12 : Orc := { cmp := [(planeHypotheses_e33, (.z 0), 0), (planeHypotheses_e38, (.z 0), 0), (planeHypotheses_e45, (.z 0), 0), (planeHypotheses_e47, planeHypotheses_e30, 0), (planeHypotheses_e49, planeHypotheses_e26, 0), (planeHypotheses_e2, (.z 0), -1), (planeHypotheses_e62, (.z 0), 0), (planeHypotheses_e67, (.z 0), 0), (planeHypotheses_e78, (.z 0), 0), (planeHypotheses_e83, planeHypotheses_e86, 0), (planeHypotheses_e6, (.z 0), 1), (planeHypotheses_e105, planeHypotheses_e110, 0), (planeHypotheses_e105, planeHypotheses_e115, 0), (planeHypotheses_e17, planeHypotheses_e20, 0)], ne := [((.v 0), (.v 2)), (planeHypotheses_e20, (.z 0)), ((.add (.z 1) (.mul (.v 8) (.v 8))), (.z 0))] }
theorem planeHypotheses_p12 (fl : Bool) : run13 planeHypotheses_A12 yes9 8 Tryz.f8 num9 fl = yesR := by kernel_rfl
def planeHypotheses_A13 : Orc := { cmp := [(planeHypotheses_e33, (.z 0), 0), (planeHypotheses_e38, (.z 0), 0), (planeHypotheses_e45, (.z 0), 0), (planeHypotheses_e47, planeHypotheses_e30, 0), (planeHypotheses_e49, planeHypotheses_e26, 0), (planeHypotheses_e2, (.z 0), 0), (planeHypotheses_e78, (.z 0), 0), (planeHypotheses_e83, planeHypotheses_e86, 0), (planeHypotheses_e6, (.z 0), -1), (planeHypotheses_e105, planeHypotheses_e110, 0), (planeHypotheses_e105, planeHypotheses_e115, 0), (planeHypotheses_e17, planeHypotheses_e20, 0)], ne := [((.v 0), (.v 2)), (planeHypotheses_e20, (.z 0)), ((.add (.z 1) (.mul (.v 8) (.v 8))), (.z 0))] }
theorem planeHypotheses_p13 (fl : Bool) : run13 planeHypotheses_A13 yes9 8 Tryz.f8 num9 fl = yesR := by kernel_rfl
def planeHypotheses_A14 : Orc := { cmp := [(planeHypotheses_e33, (.z 0), 0), (planeHypotheses_e38, (.z 0), 0), (planeHypotheses_e45, (.z 0), 0), (planeHypotheses_e47, planeHypotheses_e30, 0), (planeHypotheses_e49, planeHypotheses_e26, 0), (planeHypotheses_e2, (.z 0), 0), (planeHypotheses_e78, (.z 0), 0), (planeHypotheses_e83, planeHypotheses_e86, 0), (planeHypotheses_e6, (.z 0), 0), (planeHypotheses_e17, planeHypotheses_e20, 0)], ne := [((.v 0), (.v 2)), (planeHypotheses_e20, (.z 0)), ((.add (.z 1) (.mul (.v 8) (.v 8))), (.z 0))] }
theorem planeHypotheses_p14 (fl : Bool) : run13 planeHypotheses_A14 yes9 8 Tryz.f8 num9 fl = yesR := by kernel_rfl
def planeHypotheses_A15 : Orc := { cmp := [(planeHypotheses_e33, (.z 0), 0), (planeHypotheses_e38, (.z 0), 0), (planeHypotheses_e45, (.z 0), 0), (planeHypotheses_e47, planeHypotheses_e30, 0), (planeHypotheses_e49, planeHypotheses_e26, 0), (planeHypotheses_e2, (.z 0), 0), (planeHypotheses_e78, (.z 0), 0), (planeHypotheses_e83, planeHypotheses_e86, 0), (planeHypotheses_e6, (.z 0), 1), (planeHypotheses_e105, planeHypotheses_e110, 0), (planeHypotheses_e105, planeHypotheses_e115, 0), (planeHypotheses_e17, planeHypotheses_e20, 0)], ne := [((.v 0), (.v 2)), (planeHypotheses_e20, (.z 0)), ((.add (.z 1) (.mul (.v 8) (.v 8))), (.z 0))] }
theorem planeHypotheses_p15 (fl : Bool) : run13 planeHypotheses_A15 yes9 8 Tryz.f8 num9 fl = yesR := by kernel_rfl
def planeHypotheses_A16 : Orc := { cmp := [(planeHypotheses_e33, (.z 0), 0), (planeHypotheses_e38, (.z 0), 0), (planeHypotheses_e45, (.z 0), 0), (planeHypotheses_e47, planeHypotheses_e30, 0), (planeHypotheses_e49, planeHypotheses_e26, 0), (planeHypotheses_e2, (.z 0), 1), (planeHypotheses_e62, (.z 0), 0), (planeHypotheses_e67, (.z 0), 0), (planeHypotheses_e78, (.z 0), 0), (planeHypotheses_e83, planeHypotheses_e86, 0), (planeHypotheses_e6, (.z 0), -1), (planeHypotheses_e105, planeHypotheses_e110, 0), (planeHypotheses_e105, planeHypotheses_e115, 0), (planeHypotheses_e17, planeHypotheses_e20, 0)], ne := [((.v 0), (.v 2)), (planeHypotheses_e20, (.z 0)), ((.add (.z 1) (.mul (.v 8) (.v 8))), (.z 0))] }
theorem planeHypotheses_p16 (fl : Bool) : run13 planeHypotheses_A16 yes9 8 Tryz.f8 num9 fl = yesR := by kernel_rfl
def planeHypotheses_A17 : Orc := { cmp := [(planeHypotheses_e33, (.z 0), 0), (planeHypotheses_e38, (.z 0), 0), (planeHypotheses_e45, (.z 0), 0), (planeHypotheses_e47, planeHypotheses_e30, 0), (planeHypotheses_e49, planeHypotheses_e26, 0), (planeHypotheses_e2, (.z 0), 1), (planeHypotheses_e62, (.z 0), 0), (planeHypotheses_e67, (.z 0), 0), (planeHypotheses_e78, (.z 0), 0), (planeHypotheses_e83, planeHypotheses_e86, 0), (planeHypotheses_e6, (.z 0), 0), (planeHypotheses_e17, planeHypotheses_e20, 0)], ne := [((.v 0), (.v 2)), (planeHypotheses_e20, (.z 0)), ((.add (.z 1) (.mul (.v 8) (.v 8))), (.z 0))] }
theorem planeHypotheses_p17 (fl : Bool) : run13 planeHypotheses_A17 yes9 8 Tryz.f8 num9 fl = yesR := by kernel_rfl
def planeHypotheses_A18 : Orc := { cmp := [(planeHypotheses_e33, (.z 0), 0), (planeHypotheses_e38, (.z 0), 0), (planeHypotheses_e45, (.z 0), 0), (planeHypotheses_e47, planeHypotheses_e30, 0), (planeHypotheses_e49, planeHypotheses_e26, 0), (planeHypotheses_e2, (.z 0), 1), (planeHypotheses_e62, (.z 0), 0), (planeHypotheses_e67, (.z 0), 0), (planeHypotheses_e78, (.z 0), 0), (planeHypotheses_e83, planeHypotheses_e86, 0), (planeHypotheses_e6, (.z 0), 1), (planeHypotheses_e105, planeHypotheses_e110, 0), (planeHypotheses_e105, planeHypotheses_e115, 0), (planeHypotheses_e17, planeHypotheses_e20, 0)], ne := [((.v 0), (.v 2)), (planeHypotheses_e20, (.z 0)), ((.add (.z 1) (.mul (.v 8) (.v 8))), (.z 0))] }
theorem planeHypotheses_p18 (fl : Bool) : run13 planeHypotheses_A18 yes9 8 Tryz.f8 num9 fl = yesR := by kernel_rfl
theorem planeHypotheses_dec (ρ : Nat → Rat) (fl : Bool) : ∃ (ρ' : Nat → Rat) (A : Orc), (∀ k, k < 9 → ρ' k = ρ k) ∧ A.OK ρ' ∧ run13 A yes9 8 Tryz.f8 num9 fl = yesR := by
  by_cases h0 : RE.eval ρ (.v 0) = RE.eval ρ (.v 2)
  · have g0 := h0
    replace h0 := cmpR_zero.2 h0
    by_cases h1 : RE.eval ρ (.v 1) = RE.eval ρ (.v 3)
    · have g1 := h1
      replace h1 := cmpR_zero.2 h1
      have h2 := cmpR_zero.2 (eqC (x := planeHypotheses_e2) (y := (.z 0)) (nz := [(.z 2)]) (varsA_2_3 ρ g0.symm g1.symm) (nz_cons (two_ne _) nz_nil) (by kernel_rfl))
      have h3 := cmpR_zero.2 (eqC (x := planeHypotheses_e6) (y := (.z 0)) (nz := [(.z 2)]) (varsA_2_3 ρ g0.symm g1.symm) (nz_cons (two_ne _) nz_nil) (by kernel_rfl))
      have h4 := normC (b := (.add (.z 1) (.mul (.v 8) (.v 8)))) (x := (.z 1)) (y := (.z 0)) (f := (.v 8)) (nz := [(.z 2)]) (varsA_2_3 ρ g0.symm g1.symm) (nz_cons (two_ne _) nz_nil) (by kernel_rfl) (one_ne _)
      have h5 := cmpR_zero.2 (eqC (x := planeHypotheses_e17) (y := planeHypotheses_e20) (nz := [(.add (.z 1) (.mul (.v 8) (.v 8))), (.z 2)]) (varsA_2_3 ρ g0.symm g1.symm) (nz_cons h4 (nz_cons (two_ne _) nz_nil)) (by kernel_rfl))
      exact ⟨ρ, planeHypotheses_A0, (fun _ _ => rfl), (orc_cmp h0 (orc_cmp h1 (orc_cmp h2 (orc_cmp h3 (orc_cmp h5 (orc_ne h4 orc_nil)))))), planeHypotheses_p0 fl⟩
    · skip
      have h2 := normC (b := planeHypotheses_e20) (x := (.v 1)) (y := (.v 3)) (f := (.sub (.v 2) (.v 0))) (nz := [(.z 2)]) (varsA_2 ρ g0.symm) (nz_cons (two_ne _) nz_nil) (by kernel_rfl) h1
      have h3 := cmpR_zero.2 (eqC (x := planeHypotheses_e33) (y := (.z 0)) (nz := [planeHypotheses_e20, (.z 2)]) (varsA_2 ρ g0.symm) (nz_cons h2 (nz_cons (two_ne _) nz_nil)) (by kernel_rfl))
      have h4 := cmpR_zero.2 (eqC (x := planeHypotheses_e38) (y := (.z 0)) (nz := [planeHypotheses_e20, (.z 2)]) (varsA_2 ρ g0.symm) (nz_cons h2 (nz_cons (two_ne _) nz_nil)) (by kernel_rfl))
      have h5 := cmpR_zero.2 (eqC (x := planeHypotheses_e45) (y := (.z 0)) (nz := [planeHypotheses_e20, (.z 2)]) (varsA_2 ρ g0.symm) (nz_cons h2 (nz_cons (two_ne _) nz_nil)) (by kernel_rfl))
      have h6 := cmpR_zero.2 (eqC (x := planeHypotheses_e47) (y := planeHypotheses_e30) (nz := [planeHypotheses_e20, (.z 2)]) (varsA_2 ρ g0.symm) (nz_cons h2 (nz_cons (two_ne _) nz_nil)) (by kernel_rfl))
      have h7 := cmpR_zero.2 (eqC (x := planeHypotheses_e49) (y := planeHypotheses_e26) (nz := [planeHypotheses_e20, (.z 2)]) (varsA_2 ρ g0.symm) (nz_cons h2 (nz_cons (two_ne _) nz_nil)) (by kernel_rfl))
      rcases cmpR_bound (RE.eval ρ planeHypotheses_e2) (RE.eval ρ (.z 0)) with h8 | h8 | h8
      · skip
        have h9 := cmpR_zero.2 (eqC (x := planeHypotheses_e62) (y := (.z 0)) (nz := [planeHypotheses_e20, planeHypotheses_e2, (.z 2)]) (varsA_2 ρ g0.symm) (nz_cons h2 (nz_cons (ne_of_cmp h8 rfl) (nz_cons (two_ne _) nz_nil))) (by kernel_rfl))
        have h10 := cmpR_zero.2 (eqC (x := planeHypotheses_e67) (y := (.z 0)) (nz := [planeHypotheses_e20, planeHypotheses_e2, (.z 2)]) (varsA_2 ρ g0.symm) (nz_cons h2 (nz_cons (ne_of_cmp h8 rfl) (nz_cons (two_ne _) nz_nil))) (by kernel_rfl))
        have h11 := cmpR_zero.2 (eqC (x := planeHypotheses_e78) (y := (.z 0)) (nz := [planeHypotheses_e20, planeHypotheses_e2, (.z 2)]) (varsA_2 ρ g0.symm) (nz_cons h2 (nz_cons (ne_of_cmp h8 rfl) (nz_cons (two_ne _) nz_nil))) (by kernel_rfl))
        have h12 := cmpR_zero.2 (eqC (x := planeHypotheses_e83) (y := planeHypotheses_e86) (nz := [planeHypotheses_e20, planeHypotheses_e2, (.z 2)]) (varsA_2 ρ g0.symm) (nz_cons h2 (nz_cons (ne_of_cmp h8 rfl) (nz_cons (two_ne _) nz_nil))) (by kernel_rfl))
        rcases cmpR_bound (RE.eval ρ planeHypotheses_e6) (RE.eval ρ (.z 0)) with h13 | h13 | h13
        · skip
          have h14 := cmpR_zero.2 (eqC (x := planeHypotheses_e105) (y := planeHypotheses_e110) (nz := [planeHypotheses_e20, planeHypotheses_e2, planeHypotheses_e6, (.z 2)]) (varsA_2 ρ g0.symm) (nz_cons h2 (nz_cons (ne_of_cmp h8 rfl) (nz_cons (ne_of_cmp h13 rfl) (nz_cons (two_ne _) nz_nil)))) (by kernel_rfl))
          have h15 := cmpR_zero.2 (eqC (x := planeHypotheses_e105) (y := planeHypotheses_e115) (nz := [planeHypotheses_e20, planeHypotheses_e2, planeHypotheses_e6, (.z 2)]) (varsA_2 ρ g0.symm) (nz_cons h2 (nz_cons (ne_of_cmp h8 rfl) (nz_cons (ne_of_cmp h13 rfl) (nz_cons (two_ne _) nz_nil)))) (by kernel_rfl))
          have h16 := normC (b := (.add (.z 1) (.mul (.v 8) (.v 8)))) (x := (.z 1)) (y := (.z 0)) (f := (.v 8)) (nz := [planeHypotheses_e20, planeHypotheses_e2, planeHypotheses_e6, (.z 2)]) (varsA_2 ρ g0.symm) (nz_cons h2 (nz_cons (ne_of_cmp h8 rfl) (nz_cons (ne_of_cmp h13 rfl) (nz_cons (two_ne _) nz_nil)))) (by kernel_rfl) (one_ne _)
          have h17 := cmpR_zero.2 (eqC (x := planeHypotheses_e17) (y := planeHypotheses_e20) (nz := [planeHypotheses_e20, planeHypotheses_e2, planeHypotheses_e6, (.add (.z 1) (.mul (.v 8) (.v 8))), (.z 2)]) (varsA_2 ρ g0.symm) (nz_cons h2 (nz_cons (ne_of_cmp h8 rfl) (nz_cons (ne_of_cmp h13 rfl) (nz_cons h16 (nz_cons (two_ne _) nz_nil))))) (by kernel_rfl))
          exact ⟨ρ, planeHypotheses_A1, (fun _ _ => rfl), (orc_cmp h0 (orc_cmp h3 (orc_cmp h4 (orc_cmp h5 (orc_cmp h6 (orc_cmp h7 (orc_cmp h8 (orc_cmp h9 (orc_cmp h10 (orc_cmp h11 (orc_cmp h12 (orc_cmp h13 (orc_cmp h14 (orc_cmp h15 (orc_cmp h17 (orc_ne h1 (orc_ne h2 (orc_ne h16 orc_nil)))))))))))))))))), planeHypotheses_p1 fl⟩
        · skip
          have h14 := normC (b := (.add (.z 1) (.mul (.v 8) (.v 8)))) (x := (.z 1)) (y := (.z 0)) (f := (.v 8)) (nz := [planeHypotheses_e20, planeHypotheses_e2, (.z 2)]) (varsA_2 ρ g0.symm) (nz_cons h2 (nz_cons (ne_of_cmp h8 rfl) (nz_cons (two_ne _) nz_nil))) (by kernel_rfl) (one_ne _)
          have h15 := cmpR_zero.2 (eqC (x := planeHypotheses_e17) (y := planeHypotheses_e20) (nz := [planeHypotheses_e20, planeHypotheses_e2, (.add (.z 1) (.mul (.v 8) (.v 8))), (.z 2)]) (varsA_2 ρ g0.symm) (nz_cons h2 (nz_cons (ne_of_cmp h8 rfl) (nz_cons h14 (nz_cons (two_ne _) nz_nil)))) (by kernel_rfl))
          exact ⟨ρ, planeHypotheses_A2, (fun _ _ => rfl), (orc_cmp h0 (orc_cmp h3 (orc_cmp h4 (orc_cmp h5 (orc_cmp h6 (orc_cmp h7 (orc_cmp h8 (orc_cmp h9 (orc_cmp h10 (orc_cmp h11 (orc_cmp h12 (orc_cmp h13 (orc_cmp h15 (orc_ne h1 (orc_ne h2 (orc_ne h14 orc_nil)))))))))))))))), planeHypotheses_p2 fl⟩
        · skip
          have h14 := cmpR_zero.2 (eqC (x := planeHypotheses_e105) (y := planeHypotheses_e110) (nz := [planeHypotheses_e20, planeHypotheses_e2, planeHypotheses_e6, (.z 2)]) (varsA_2 ρ g0.symm) (nz_cons h2 (nz_cons (ne_of_cmp h8 rfl) (nz_cons (ne_of_cmp h13 rfl) (nz_cons (two_ne _) nz_nil)))) (by kernel_rfl))
          have h15 := cmpR_zero.2 (eqC (x := planeHypotheses_e105) (y := planeHypotheses_e115) (nz := [planeHypotheses_e20, planeHypotheses_e2, planeHypotheses_e6, (.z 2)]) (varsA_2 ρ g0.symm) (nz_cons h2 (nz_cons (ne_of_cmp h8 rfl) (nz_cons (ne_of_cmp h13 rfl) (nz_cons (two_ne _) nz_nil)))) (by kernel_rfl))
          have h16 := normC (b := (.add (.z 1) (.mul (.v 8) (.v 8)))) (x := (.z 1)) (y := (.z 0)) (f := (.v 8)) (nz := [planeHypotheses_e20, planeHypotheses_e2, planeHypotheses_e6, (.z 2)]) (varsA_2 ρ g0.symm) (nz_cons h2 (nz_cons (ne_of_cmp h8 rfl) (nz_cons (ne_of_cmp h13 rfl) (nz_cons (two_ne _) nz_nil)))) (by kernel_rfl) (one_ne _)
          have h17 := cmpR_zero.2 (eqC (x := planeHypotheses_e17) (y := planeHypotheses_e20) (nz := [planeHypotheses_e20, planeHypotheses_e2, planeHypotheses_e6, (.add (.z 1) (.mul (.v 8) (.v 8))), (.z 2)]) (varsA_2 ρ g0.symm) (nz_cons h2 (nz_cons (ne_of_cmp h8 rfl) (nz_cons (ne_of_cmp h13 rfl) (nz_cons h16 (nz_cons (two_ne _) nz_nil))))) (by kernel_rfl))
          exact ⟨ρ, planeHypotheses_A3, (fun _ _ => rfl), (orc_cmp h0 (orc_cmp h3 (orc_cmp h4 (orc_cmp h5 (orc_cmp h6 (orc_cmp h7 (orc_cmp h8 (orc_cmp h9 (orc_cmp h10 (orc_cmp h11 (orc_cmp h12 (orc_cmp h13 (orc_cmp h14 (orc_cmp h15 (orc_cmp h17 (orc_ne h1 (orc_ne h2 (orc_ne h16 orc_nil)))))))))))))))))), planeHypotheses_p3 fl⟩
      · skip
        have h9 := cmpR_zero.2 (eqC (x := planeHypotheses_e78) (y := (.z 0)) (nz := [planeHypotheses_e20, (.z 2)]) (varsA_2 ρ g0.symm) (nz_cons h2 (nz_cons (two_ne _) nz_nil)) (by kernel_rfl))
        have h10 := cmpR_zero.2 (eqC (x := planeHypotheses_e83) (y := planeHypotheses_e86) (nz := [planeHypotheses_e20, (.z 2)]) (varsA_2 ρ g0.symm) (nz_cons h2 (nz_cons (two_ne _) nz_nil)) (by kernel_rfl))
        rcases cmpR_bound (RE.eval ρ planeHypotheses_e6) (RE.eval ρ (.z 0)) with h11 | h11 | h11
        · skip
          have h12 := cmpR_zero.2 (eqC (x := planeHypotheses_e105) (y := planeHypotheses_e110) (nz := [planeHypotheses_e20, planeHypotheses_e6, (.z 2)]) (varsA_2 ρ g0.symm) (nz_cons h2 (nz_cons (ne_of_cmp h11 rfl) (nz_cons (two_ne _) nz_nil))) (by kernel_rfl))
          have h13 := cmpR_zero.2 (eqC (x := planeHypotheses_e105) (y := planeHypotheses_e115) (nz := [planeHypotheses_e20, planeHypotheses_e6, (.z 2)]) (varsA_2 ρ g0.symm) (nz_cons h2 (nz_cons (ne_of_cmp h11 rfl) (nz_cons (two_ne _) nz_nil))) (by kernel_rfl))
          have h14 := normC (b := (.add (.z 1) (.mul (.v 8) (.v 8)))) (x := (.z 1)) (y := (.z 0)) (f := (.v 8)) (nz := [planeHypotheses_e20, planeHypotheses_e6, (.z 2)]) (varsA_2 ρ g0.symm) (nz_cons h2 (nz_cons (ne_of_cmp h11 rfl) (nz_cons (two_ne _) nz_nil))) (by kernel_rfl) (one_ne _)
          have h15 := cmpR_zero.2 (eqC (x := planeHypotheses_e17) (y := planeHypotheses_e20) (nz := [planeHypotheses_e20, planeHypotheses_e6, (.add (.z 1) (.mul (.v 8) (.v 8))), (.z 2)]) (varsA_2 ρ g0.symm) (nz_cons h2 (nz_cons (ne_of_cmp h11 rfl) (nz_cons h14 (nz_cons (two_ne _) nz_nil)))) (by kernel_rfl))
          exact ⟨ρ, planeHypotheses_A4, (fun _ _ => rfl), (orc_cmp h0 (orc_cmp h3 (orc_cmp h4 (orc_cmp h5 (orc_cmp h6 (orc_cmp h7 (orc_cmp h8 (orc_cmp h9 (orc_cmp h10 (orc_cmp h11 (orc_cmp h12 (orc_cmp h13 (orc_cmp h15 (orc_ne h1 (orc_ne h2 (orc_ne h14 orc_nil)))))))))))))))), planeHypotheses_p4 fl⟩
        · skip
          have h12 := normC (b := (.add (.z 1) (.mul (.v 8) (.v 8)))) (x := (.z 1)) (y := (.z 0)) (f := (.v 8)) (nz := [planeHypotheses_e20, (.z 2)]) (varsA_2 ρ g0.symm) (nz_cons h2 (nz_cons (two_ne _) nz_nil)) (by kernel_rfl) (one_ne _)
          have h13 := cmpR_zero.2 (eqC (x := planeHypotheses_e17) (y := planeHypotheses_e20) (nz := [planeHypotheses_e20, (.add (.z 1) (.mul (.v 8) (.v 8))), (.z 2)]) (varsA_2 ρ g0.symm) (nz_cons h2 (nz_cons h12 (nz_cons (two_ne _) nz_nil))) (by kernel_rfl))
          exact ⟨ρ, planeHypotheses_A5, (fun _ _ => rfl), (orc_cmp h0 (orc_cmp h3 (orc_cmp h4 (orc_cmp h5 (orc_cmp h6 (orc_cmp h7 (orc_cmp h8 (orc_cmp h9 (orc_cmp h10 (orc_cmp h11 (orc_cmp h13 (orc_ne h1 (orc_ne h2 (orc_ne h12 orc_nil)))))))))))))), planeHypotheses_p5 fl⟩
        · skip
          have h12 := cmpR_zero.2 (eqC (x := planeHypotheses_e105) (y := planeHypotheses_e110) (nz := [planeHypotheses_e20, planeHypotheses_e6, (.z 2)]) (varsA_2 ρ g0.symm) (nz_cons h2 (nz_cons (ne_of_cmp h11 rfl) (nz_cons (two_ne _) nz_nil))) (by kernel_rfl))
          have h13 := cmpR_zero.2 (eqC (x := planeHypotheses_e105) (y := planeHypotheses_e115) (nz := [planeHypotheses_e20, planeHypotheses_e6, (.z 2)]) (varsA_2 ρ g0.symm) (nz_cons h2 (nz_cons (ne_of_cmp h11 rfl) (nz_cons (two_ne _) nz_nil))) (by kernel_rfl))
          have h14 := normC (b := (.add (.z 1) (.mul (.v 8) (.v 8)))) (x := (.z 1)) (y := (.z 0)) (f := (.v 8)) (nz := [planeHypotheses_e20, planeHypotheses_e6, (.z 2)]) (varsA_2 ρ g0.symm) (nz_cons h2 (nz_cons (ne_of_cmp h11 rfl) (nz_cons (two_ne _) nz_nil))) (by kernel_rfl) (one_ne _)
          have h15 := cmpR_zero.2 (eqC (x := planeHypotheses_e17) (y := planeHypotheses_e20) (nz := [planeHypotheses_e20, planeHypotheses_e6, (.add (.z 1) (.mul (.v 8) (.v 8))), (.z 2)]) (varsA_2 ρ g0.symm) (nz_cons h2 (nz_cons (ne_of_cmp h11 rfl) (nz_cons h14 (nz_cons (two_ne _) nz_nil)))) (by kernel_rfl))
          exact ⟨ρ, planeHypotheses_A6, (fun _ _ => rfl), (orc_cmp h0 (orc_cmp h3 (orc_cmp h4 (orc_cmp h5 (orc_cmp h6 (orc_cmp h7 (orc_cmp h8 (orc_cmp h9 (orc_cmp h10 (orc_cmp h11 (orc_cmp h12 (orc_cmp h13 (orc_cmp h15 (orc_ne h1 (orc_ne h2 (orc_ne h14 orc_nil)))))))))))))))), planeHypotheses_p6 fl⟩
      · skip
        have h9 := cmpR_zero.2 (eqC (x := planeHypotheses_e62) (y := (.z 0)) (nz := [planeHypotheses_e20, planeHypotheses_e2, (.z 2)]) (varsA_2 ρ g0.symm) (nz_cons h2 (nz_cons (ne_of_cmp h8 rfl) (nz_cons (two_ne _) nz_nil))) (by kernel_rfl))
        have h10 := cmpR_zero.2 (eqC (x := planeHypotheses_e67) (y := (.z 0)) (nz := [planeHypotheses_e20, planeHypotheses_e2, (.z 2)]) (varsA_2 ρ g0.symm) (nz_cons h2 (nz_cons (ne_of_cmp h8 rfl) (nz_cons (two_ne _) nz_nil))) (by kernel_rfl))
        have h11 := cmpR_zero.2 (eqC (x := planeHypotheses_e78) (y := (.z 0)) (nz := [planeHypotheses_e20, planeHypotheses_e2, (.z 2)]) (varsA_2 ρ g0.symm) (nz_cons h2 (nz_cons (ne_of_cmp h8 rfl) (nz_cons (two_ne _) nz_nil))) (by kernel_rfl))
        have h12 := cmpR_zero.2 (eqC (x := planeHypotheses_e83) (y := planeHypotheses_e86) (nz := [planeHypotheses_e20, planeHypotheses_e2, (.z 2)]) (varsA_2 ρ g0.symm) (nz_cons h2 (nz_cons (ne_of_cmp h8 rfl) (nz_cons (two_ne _) nz_nil))) (by kernel_rfl))
        rcases cmpR_bound (RE.eval ρ planeHypotheses_e6) (RE.eval ρ (.z 0)) with h13 | h13 | h13
        · skip
          have h14 := cmpR_zero.2 (eqC (x := planeHypotheses_e105) (y := planeHypotheses_e110) (nz := [planeHypotheses_e20, planeHypotheses_e2, planeHypotheses_e6, (.z 2)]) (varsA_2 ρ g0.symm) (nz_cons h2 (nz_cons (ne_of_cmp h8 rfl) (nz_cons (ne_of_cmp h13 rfl) (nz_cons (two_ne _) nz_nil)))) (by kernel_rfl))
          have h15 := cmpR_zero.2 (eqC (x := planeHypotheses_e105) (y := planeHypotheses_e115) (nz := [planeHypotheses_e20, planeHypotheses_e2, planeHypotheses_e6, (.z 2)]) (varsA_2 ρ g0.symm) (nz_cons h2 (nz_cons (ne_of_cmp h8 rfl) (nz_cons (ne_of_cmp h13 rfl) (nz_cons (two_ne _) nz_nil)))) (by kernel_rfl))
          have h16 := normC (b := (.add (.z 1) (.mul (.v 8) (.v 8)))) (x := (.z 1)) (y := (.z 0)) (f := (.v 8)) (nz := [planeHypotheses_e20, planeHypotheses_e2, planeHypotheses_e6, (.z 2)]) (varsA_2 ρ g0.symm) (nz_cons h2 (nz_cons (ne_of_cmp h8 rfl) (nz_cons (ne_of_cmp h13 rfl) (nz_cons (two_ne _) nz_nil)))) (by kernel_rfl) (one_ne _)
          have h17 := cmpR_zero.2 (eqC (x := planeHypotheses_e17) (y := planeHypotheses_e20) (nz := [planeHypotheses_e20, planeHypotheses_e2, planeHypotheses_e6, (.add (.z 1) (.mul (.v 8) (.v 8))), (.z 2)]) (varsA_2 ρ g0.symm) (nz_cons h2 (nz_cons (ne_of_cmp h8 rfl) (nz_cons (ne_of_cmp h13 rfl) (nz_cons h16 (nz_cons (two_ne _) nz_nil))))) (by kernel_rfl))
          exact ⟨ρ, planeHypotheses_A7, (fun _ _ => rfl), (orc_cmp h0 (orc_cmp h3 (orc_cmp h4 (orc_cmp h5 (orc_cmp h6 (orc_cmp h7 (orc_cmp h8 (orc_cmp h9 (orc_cmp h10 (orc_cmp h11 (orc_cmp h12 (orc_cmp h13 (orc_cmp h14 (orc_cmp h15 (orc_cmp h17 (orc_ne h1 (orc_ne h2 (orc_ne h16 orc_nil)))))))))))))))))), planeHypotheses_p7 fl⟩
        · skip
          have h14 := normC (b := (.add (.z 1) (.mul (.v 8) (.v 8)))) (x := (.z 1)) (y := (.z 0)) (f := (.v 8)) (nz := [planeHypotheses_e20, planeHypotheses_e2, (.z 2)]) (varsA_2 ρ g0.symm) (nz_cons h2 (nz_cons (ne_of_cmp h8 rfl) (nz_cons (two_ne _) nz_nil))) (by kernel_rfl) (one_ne _)
          have h15 := cmpR_zero.2 (eqC (x := planeHypotheses_e17) (y := planeHypotheses_e20) (nz := [planeHypotheses_e20, planeHypotheses_e2, (.add (.z 1) (.mul (.v 8) (.v 8))), (.z 2)]) (varsA_2 ρ g0.symm) (nz_cons h2 (nz_cons (ne_of_cmp h8 rfl) (nz_cons h14 (nz_cons (two_ne _) nz_nil)))) (by kernel_rfl))
          exact ⟨ρ, planeHypotheses_A8, (fun _ _ => rfl), (orc_cmp h0 (orc_cmp h3 (orc_cmp h4 (orc_cmp h5 (orc_cmp h6 (orc_cmp h7 (orc_cmp h8 (orc_cmp h9 (orc_cmp h10 (orc_cmp h11 (orc_cmp h12 (orc_cmp h13 (orc_cmp h15 (orc_ne h1 (orc_ne h2 (orc_ne h14 orc_nil)))))))))))))))), planeHypotheses_p8 fl⟩
        · skip
          have h14 := cmpR_zero.2 (eqC (x := planeHypotheses_e105) (y := planeHypotheses_e110) (nz := [planeHypotheses_e20, planeHypotheses_e2, planeHypotheses_e6, (.z 2)]) (varsA_2 ρ g0.symm) (nz_cons h2 (nz_cons (ne_of_cmp h8 rfl) (nz_cons (ne_of_cmp h13 rfl) (nz_cons (two_ne _) nz_nil)))) (by kernel_rfl))
          have h15 := cmpR_zero.2 (eqC (x := planeHypotheses_e105) (y := planeHypotheses_e115) (nz := [planeHypotheses_e20, planeHypotheses_e2, planeHypotheses_e6, (.z 2)]) (varsA_2 ρ g0.symm) (nz_cons h2 (nz_cons (ne_of_cmp h8 rfl) (nz_cons (ne_of_cmp h13 rfl) (nz_cons (two_ne _) nz_nil)))) (by kernel_rfl))
          have h16 := normC (b := (.add (.z 1) (.mul (.v 8) (.v 8)))) (x := (.z 1)) (y := (.z 0)) (f := (.v 8)) (nz := [planeHypotheses_e20, planeHypotheses_e2, planeHypotheses_e6, (.z 2)]) (varsA_2 ρ g0.symm) (nz_cons h2 (nz_cons (ne_of_cmp h8 rfl) (nz_cons (ne_of_cmp h13 rfl) (nz_cons (two_ne _) nz_nil)))) (by kernel_rfl) (one_ne _)
          have h17 := cmpR_zero.2 (eqC (x := planeHypotheses_e17) (y := planeHypotheses_e20) (nz := [planeHypotheses_e20, planeHypotheses_e2, planeHypotheses_e6, (.add (.z 1) (.mul (.v 8) (.v 8))), (.z 2)]) (varsA_2 ρ g0.symm) (nz_cons h2 (nz_cons (ne_of_cmp h8 rfl) (nz_cons (ne_of_cmp h13 rfl) (nz_cons h16 (nz_cons (two_ne _) nz_nil))))) (by kernel_rfl))
          exact ⟨ρ, planeHypotheses_A9, (fun _ _ => rfl), (orc_cmp h0 (orc_cmp h3 (orc_cmp h4 (orc_cmp h5 (orc_cmp h6 (orc_cmp h7 (orc_cmp h8 (orc_cmp h9 (orc_cmp h10 (orc_cmp h11 (orc_cmp h12 (orc_cmp h13 (orc_cmp h14 (orc_cmp h15 (orc_cmp h17 (orc_ne h1 (orc_ne h2 (orc_ne h16 orc_nil)))))))))))))))))), planeHypotheses_p9 fl⟩
  · skip
    have h1 := normC (b := planeHypotheses_e20) (x := (.v 0)) (y := (.v 2)) (f := (.sub (.v 3) (.v 1))) (nz := [(.z 2)]) (varsA ρ) (nz_cons (two_ne _) nz_nil) (by kernel_rfl) h0
    have h2 := cmpR_zero.2 (eqC (x := planeHypotheses_e33) (y := (.z 0)) (nz := [planeHypotheses_e20, (.z 2)]) (varsA ρ) (nz_cons h1 (nz_cons (two_ne _) nz_nil)) (by kernel_rfl))
    have h3 := cmpR_zero.2 (eqC (x := planeHypotheses_e38) (y := (.z 0)) (nz := [planeHypotheses_e20, (.z 2)]) (varsA ρ) (nz_cons h1 (nz_cons (two_ne _) nz_nil)) (by kernel_rfl))
    have h4 := cmpR_zero.2 (eqC (x := planeHypotheses_e45) (y := (.z 0)) (nz := [planeHypotheses_e20, (.z 2)]) (varsA ρ) (nz_cons h1 (nz_cons (two_ne _) nz_nil)) (by kernel_rfl))
    have h5 := cmpR_zero.2 (eqC (x := planeHypotheses_e47) (y := planeHypotheses_e30) (nz := [planeHypotheses_e20, (.z 2)]) (varsA ρ) (nz_cons h1 (nz_cons (two_ne _) nz_nil)) (by kernel_rfl))
    have h6 := cmpR_zero.2 (eqC (x := planeHypotheses_e49) (y := planeHypotheses_e26) (nz := [planeHypotheses_e20, (.z 2)]) (varsA ρ) (nz_cons h1 (nz_cons (two_ne _) nz_nil)) (by kernel_rfl))
    rcases cmpR_bound (RE.eval ρ planeHypotheses_e2) (RE.eval ρ (.z 0)) with h7 | h7 | h7
    · skip
      have h8 := cmpR_zero.2 (eqC (x := planeHypotheses_e62) (y := (.z 0)) (nz := [planeHypotheses_e20, planeHypotheses_e2, (.z 2)]) (varsA ρ) (nz_cons h1 (nz_cons (ne_of_cmp h7 rfl) (nz_cons (two_ne _) nz_nil))) (by kernel_rfl))
      have h9 := cmpR_zero.2 (eqC (x := planeHypotheses_e67) (y := (.z 0)) (nz := [planeHypotheses_e20, planeHypotheses_e2, (.z 2)]) (varsA ρ) (nz_cons h1 (nz_cons (ne_of_cmp h7 rfl) (nz_cons (two_ne _) nz_nil))) (by kernel_rfl))
      have h10 := cmpR_zero.2 (eqC (x := planeHypotheses_e78) (y := (.z 0)) (nz := [planeHypotheses_e20, planeHypotheses_e2, (.z 2)]) (varsA ρ) (nz_cons h1 (nz_cons (ne_of_cmp h7 rfl) (nz_cons (two_ne _) nz_nil))) (by kernel_rfl))
      have h11 := cmpR_zero.2 (eqC (x := planeHypotheses_e83) (y := planeHypotheses_e86) (nz := [planeHypotheses_e20, planeHypotheses_e2, (.z 2)]) (varsA ρ) (nz_cons h1 (nz_cons (ne_of_cmp h7 rfl) (nz_cons (two_ne _) nz_nil))) (by kernel_rfl))
      rcases cmpR_bound (RE.eval ρ planeHypotheses_e6) (RE.eval ρ (.z 0)) with h12 | h12 | h12
      · skip
        have h13 := cmpR_zero.2 (eqC (x := planeHypotheses_e105) (y := planeHypotheses_e110) (nz := [planeHypotheses_e20, planeHypotheses_e2, planeHypotheses_e6, (.z 2)]) (varsA ρ) (nz_cons h1 (nz_cons (ne_of_cmp h7 rfl) (nz_cons (ne_of_cmp h12 rfl) (nz_cons (two_ne _) nz_nil)))) (by kernel_rfl))
        have h14 := cmpR_zero.2 (eqC (x := planeHypotheses_e105) (y := planeHypotheses_e115) (nz := [planeHypotheses_e20, planeHypotheses_e2, planeHypotheses_e6, (.z 2)]) (varsA ρ) (nz_cons h1 (nz_cons (ne_of_cmp h7 rfl) (nz_cons (ne_of_cmp h12 rfl) (nz_cons (two_ne _) nz_nil)))) (by kernel_rfl))
        have h15 := normC (b := (.add (.z 1) (.mul (.v 8) (.v 8)))) (x := (.z 1)) (y := (.z 0)) (f := (.v 8)) (nz := [planeHypotheses_e20, planeHypotheses_e2, planeHypotheses_e6, (.z 2)]) (varsA ρ) (nz_cons h1 (nz_cons (ne_of_cmp h7 rfl) (nz_cons (ne_of_cmp h12 rfl) (nz_cons (two_ne _) nz_nil)))) (by kernel_rfl) (one_ne _)
        have h16 := cmpR_zero.2 (eqC (x := planeHypotheses_e17) (y := planeHypotheses_e20) (nz := [planeHypotheses_e20, planeHypotheses_e2, planeHypotheses_e6, (.add (.z 1) (.mul (.v 8) (.v 8))), (.z 2)]) (varsA ρ) (nz_cons h1 (nz_cons (ne_of_cmp h7 rfl) (nz_cons (ne_of_cmp h12 rfl) (nz_cons h15 (nz_cons (two_ne _) nz_nil))))) (by kernel_rfl))
        exact ⟨ρ, planeHypotheses_A10, (fun _ _ => rfl), (orc_cmp h2 (orc_cmp h3 (orc_cmp h4 (orc_cmp h5 (orc_cmp h6 (orc_cmp h7 (orc_cmp h8 (orc_cmp h9 (orc_cmp h10 (orc_cmp h11 (orc_cmp h12 (orc_cmp h13 (orc_cmp h14 (orc_cmp h16 (orc_ne h0 (orc_ne h1 (orc_ne h15 orc_nil))))))))))))))))), planeHypotheses_p10 fl⟩
      · skip
        have h13 := normC (b := (.add (.z 1) (.mul (.v 8) (.v 8)))) (x := (.z 1)) (y := (.z 0)) (f := (.v 8)) (nz := [planeHypotheses_e20, planeHypotheses_e2, (.z 2)]) (varsA ρ) (nz_cons h1 (nz_cons (ne_of_cmp h7 rfl) (nz_cons (two_ne _) nz_nil))) (by kernel_rfl) (one_ne _)
        have h14 := cmpR_zero.2 (eqC (x := planeHypotheses_e17) (y := planeHypotheses_e20) (nz := [planeHypotheses_e20, planeHypotheses_e2, (.add (.z 1) (.mul (.v 8) (.v 8))), (.z 2)]) (varsA ρ) (nz_cons h1 (nz_cons (ne_of_cmp h7 rfl) (nz_cons h13 (nz_cons (two_ne _) nz_nil)))) (by kernel_rfl))
        exact ⟨ρ, planeHypotheses_A11, (fun _ _ => rfl), (orc_cmp h2 (orc_cmp h3 (orc_cmp h4 (orc_cmp h5 (orc_cmp h6 (orc_cmp h7 (orc_cmp h8 (orc_cmp h9 (orc_cmp h10 (orc_cmp h11 (orc_cmp h12 (orc_cmp h14 (orc_ne h0 (orc_ne h1 (orc_ne h13 orc_nil))))))))))))))), planeHypotheses_p11 fl⟩
      · skip
        have h13 := cmpR_zero.2 (eqC (x := planeHypotheses_e105) (y := planeHypotheses_e110) (nz := [planeHypotheses_e20, planeHypotheses_e2, planeHypotheses_e6, (.z 2)]) (varsA ρ) (nz_cons h1 (nz_cons (ne_of_cmp h7 rfl) (nz_cons (ne_of_cmp h12 rfl) (nz_cons (two_ne _) nz_nil)))) (by kernel_rfl))
        have h14 := cmpR_zero.2 (eqC (x := planeHypotheses_e105) (y := planeHypotheses_e115) (nz := [planeHypotheses_e20, planeHypotheses_e2, planeHypotheses_e6, (.z 2)]) (varsA ρ) (nz_cons h1 (nz_cons (ne_of_cmp h7 rfl) (nz_cons (ne_of_cmp h12 rfl) (nz_cons (two_ne _) nz_nil)))) (by kernel_rfl))
        have h15 := normC (b := (.add (.z 1) (.mul (.v 8) (.v 8)))) (x := (.z 1)) (y := (.z 0)) (f := (.v 8)) (nz := [planeHypotheses_e20, planeHypotheses_e2, planeHypotheses_e6, (.z 2)]) (varsA ρ) (nz_cons h1 (nz_cons (ne_of_cmp h7 rfl) (nz_cons (ne_of_cmp h12 rfl) (nz_cons (two_ne _) nz_nil)))) (by kernel_rfl) (one_ne _)
        have h16 := cmpR_zero.2 (eqC (x := planeHypotheses_e17) (y := planeHypotheses_e20) (nz := [planeHypotheses_e20, planeHypotheses_e2, planeHypotheses_e6, (.add (.z 1) (.mul (.v 8) (.v 8))), (.z 2)]) (varsA ρ) (nz_cons h1 (nz_cons (ne_of_cmp h7 rfl) (nz_cons (ne_of_cmp h12 rfl) (nz_cons h15 (nz_cons (two_ne _) nz_nil))))) (by kernel_rfl))
        exact ⟨ρ, planeHypotheses_A12, (fun _ _ => rfl), (orc_cmp h2 (orc_cmp h3 (orc_cmp h4 (orc_cmp h5 (orc_cmp h6 (orc_cmp h7 (orc_cmp h8 (orc_cmp h9 (orc_cmp h10 (orc_cmp h11 (orc_cmp h12 (orc_cmp h13 (orc_cmp h14 (orc_cmp h16 (orc_ne h0 (orc_ne h1 (orc_ne h15 orc_nil))))))))))))))))), planeHypotheses_p12 fl⟩
    · skip
      have h8 := cmpR_zero.2 (eqC (x := planeHypotheses_e78) (y := (.z 0)) (nz := [planeHypotheses_e20, (.z 2)]) (varsA ρ) (nz_cons h1 (nz_cons (two_ne _) nz_nil)) (by kernel_rfl))
      have h9 := cmpR_zero.2 (eqC (x := planeHypotheses_e83) (y := planeHypotheses_e86) (nz := [planeHypotheses_e20, (.z 2)]) (varsA ρ) (nz_cons h1 (nz_cons (two_ne _) nz_nil)) (by kernel_rfl))
      rcases cmpR_bound (RE.eval ρ planeHypotheses_e6) (RE.eval ρ (.z 0)) with h10 | h10 | h10
      · skip
        have h11 := cmpR_zero.2 (eqC (x := planeHypotheses_e105) (y := planeHypotheses_e110) (nz := [planeHypotheses_e20, planeHypotheses_e6, (.z 2)]) (varsA ρ) (nz_cons h1 (nz_cons (ne_of_cmp h10 rfl) (nz_cons (two_ne _) nz_nil))) (by kernel_rfl))
        have h12 := cmpR_zero.2 (eqC (x := planeHypotheses_e105) (y := planeHypotheses_e115) (nz := [planeHypotheses_e20, planeHypotheses_e6, (.z 2)]) (varsA ρ) (nz_cons h1 (nz_cons (ne_of_cmp h10 rfl) (nz_cons (two_ne _) nz_nil))) (by kernel_rfl))
        have h13 := normC (b := (.add (.z 1) (.mul (.v 8) (.v 8)))) (x := (.z 1)) (y := (.z 0)) (f := (.v 8)) (nz := [planeHypotheses_e20, planeHypotheses_e6, (.z 2)]) (varsA ρ) (nz_cons h1 (nz_cons (ne_of_cmp h10 rfl) (nz_cons (two_ne _) nz_nil))) (by kernel_rfl) (one_ne _)
        have h14 := cmpR_zero.2 (eqC (x := planeHypotheses_e17) (y := planeHypotheses_e20) (nz := [planeHypotheses_e20, planeHypotheses_e6, (.add (.z 1) (.mul (.v 8) (.v 8))), (.z 2)]) (varsA ρ) (nz_cons h1 (nz_cons (ne_of_cmp h10 rfl) (nz_cons h13 (nz_cons (two_ne _) nz_nil)))) (by kernel_rfl))
        exact ⟨ρ, planeHypotheses_A13, (fun _ _ => rfl), (orc_cmp h2 (orc_cmp h3 (orc_cmp h4 (orc_cmp h5 (orc_cmp h6 (orc_cmp h7 (orc_cmp h8 (orc_cmp h9 (orc_cmp h10 (orc_cmp h11 (orc_cmp h12 (orc_cmp h14 (orc_ne h0 (orc_ne h1 (orc_ne h13 orc_nil))))))))))))))), planeHypotheses_p13 fl⟩
      · skip
        have h11 := normC (b := (.add (.z 1) (.mul (.v 8) (.v 8)))) (x := (.z 1)) (y := (.z 0)) (f := (.v 8)) (nz := [planeHypotheses_e20, (.z 2)]) (varsA ρ) (nz_cons h1 (nz_cons (two_ne _) nz_nil)) (by kernel_rfl) (one_ne _)
        have h12 := cmpR_zero.2 (eqC (x := planeHypotheses_e17) (y := planeHypotheses_e20) (nz := [planeHypotheses_e20, (.add (.z 1) (.mul (.v 8) (.v 8))), (.z 2)]) (varsA ρ) (nz_cons h1 (nz_cons h11 (nz_cons (two_ne _) nz_nil))) (by kernel_rfl))
        exact ⟨ρ, planeHypotheses_A14, (fun _ _ => rfl), (orc_cmp h2 (orc_cmp h3 (orc_cmp h4 (orc_cmp h5 (orc_cmp h6 (orc_cmp h7 (orc_cmp h8 (orc_cmp h9 (orc_cmp h10 (orc_cmp h12 (orc_ne h0 (orc_ne h1 (orc_ne h11 orc_nil))))))))))))), planeHypotheses_p14 fl⟩
      · skip
        have h11 := cmpR_zero.2 (eqC (x := planeHypotheses_e105) (y := planeHypotheses_e110) (nz := [planeHypotheses_e20, planeHypotheses_e6, (.z 2)]) (varsA ρ) (nz_cons h1 (nz_cons (ne_of_cmp h10 rfl) (nz_cons (two_ne _) nz_nil))) (by kernel_rfl))
        have h12 := cmpR_zero.2 (eqC (x := planeHypotheses_e105) (y := planeHypotheses_e115) (nz := [planeHypotheses_e20, planeHypotheses_e6, (.z 2)]) (varsA ρ) (nz_cons h1 (nz_cons (ne_of_cmp h10 rfl) (nz_cons (two_ne _) nz_nil))) (by kernel_rfl))
        have h13 := normC (b := (.add (.z 1) (.mul (.v 8) (.v 8)))) (x := (.z 1)) (y := (.z 0)) (f := (.v 8)) (nz := [planeHypotheses_e20, planeHypotheses_e6, (.z 2)]) (varsA ρ) (nz_cons h1 (nz_cons (ne_of_cmp h10 rfl) (nz_cons (two_ne _) nz_nil))) (by kernel_rfl) (one_ne _)
        have h14 := cmpR_zero.2 (eqC (x := planeHypotheses_e17) (y := planeHypotheses_e20) (nz := [planeHypotheses_e20, planeHypotheses_e6, (.add (.z 1) (.mul (.v 8) (.v 8))), (.z 2)]) (varsA ρ) (nz_cons h1 (nz_cons (ne_of_cmp h10 rfl) (nz_cons h13 (nz_cons (two_ne _) nz_nil)))) (by kernel_rfl))
        exact ⟨ρ, planeHypotheses_A15, (fun _ _ => rfl), (orc_cmp h2 (orc_cmp h3 (orc_cmp h4 (orc_cmp h5 (orc_cmp h6 (orc_cmp h7 (orc_cmp h8 (orc_cmp h9 (orc_cmp h10 (orc_cmp h11 (orc_cmp h12 (orc_cmp h14 (orc_ne h0 (orc_ne h1 (orc_ne h13 orc_nil))))))))))))))), planeHypotheses_p15 fl⟩
    · skip
      have h8 := cmpR_zero.2 (eqC (x := planeHypotheses_e62) (y := (.z 0)) (nz := [planeHypotheses_e20, planeHypotheses_e2, (.z 2)]) (varsA ρ) (nz_cons h1 (nz_cons (ne_of_cmp h7 rfl) (nz_cons (two_ne _) nz_nil))) (by kernel_rfl))
      have h9 := cmpR_zero.2 (eqC (x := planeHypotheses_e67) (y := (.z 0)) (nz := [planeHypotheses_e20, planeHypotheses_e2, (.z 2)]) (varsA ρ) (nz_cons h1 (nz_cons (ne_of_cmp h7 rfl) (nz_cons (two_ne _) nz_nil))) (by kernel_rfl))
      have h10 := cmpR_zero.2 (eqC (x := planeHypotheses_e78) (y := (.z 0)) (nz := [planeHypotheses_e20, planeHypotheses_e2, (.z 2)]) (varsA ρ) (nz_cons h1 (nz_cons (ne_of_cmp h7 rfl) (nz_cons (two_ne _) nz_nil))) (by kernel_rfl))
      have h11 := cmpR_zero.2 (eqC (x := planeHypotheses_e83) (y := planeHypotheses_e86) (nz := [planeHypotheses_e20, planeHypotheses_e2, (.z 2)]) (varsA ρ) (nz_cons h1 (nz_cons (ne_of_cmp h7 rfl) (nz_cons (two_ne _) nz_nil))) (by kernel_rfl))
      rcases cmpR_bound (RE.eval ρ planeHypotheses_e6) (RE.eval ρ (.z 0)) with h12 | h12 | h12
      · skip
        have h13 := cmpR_zero.2 (eqC (x := planeHypotheses_e105) (y := planeHypotheses_e110) (nz := [planeHypotheses_e20, planeHypotheses_e2, planeHypotheses_e6, (.z 2)]) (varsA ρ) (nz_cons h1 (nz_cons (ne_of_cmp h7 rfl) (nz_cons (ne_of_cmp h12 rfl) (nz_cons (two_ne _) nz_nil)))) (by kernel_rfl))
        have h14 := cmpR_zero.2 (eqC (x := planeHypotheses_e105) (y := planeHypotheses_e115) (nz := [planeHypotheses_e20, planeHypotheses_e2, planeHypotheses_e6, (.z 2)]) (varsA ρ) (nz_cons h1 (nz_cons (ne_of_cmp h7 rfl) (nz_cons (ne_of_cmp h12 rfl) (nz_cons (two_ne _) nz_nil)))) (by kernel_rfl))
        have h15 := normC (b := (.add (.z 1) (.mul (.v 8) (.v 8)))) (x := (.z 1)) (y := (.z 0)) (f := (.v 8)) (nz := [planeHypotheses_e20, planeHypotheses_e2, planeHypotheses_e6, (.z 2)]) (varsA ρ) (nz_cons h1 (nz_cons (ne_of_cmp h7 rfl) (nz_cons (ne_of_cmp h12 rfl) (nz_cons (two_ne _) nz_nil)))) (by kernel_rfl) (one_ne _)
        have h16 := cmpR_zero.2 (eqC (x := planeHypotheses_e17) (y := planeHypotheses_e20) (nz := [planeHypotheses_e20, planeHypotheses_e2, planeHypotheses_e6, (.add (.z 1) (.mul (.v 8) (.v 8))), (.z 2)]) (varsA ρ) (nz_cons h1 (nz_cons (ne_of_cmp h7 rfl) (nz_cons (ne_of_cmp h12 rfl) (nz_cons h15 (nz_cons (two_ne _) nz_nil))))) (by kernel_rfl))
        exact ⟨ρ, planeHypotheses_A16, (fun _ _ => rfl), (orc_cmp h2 (orc_cmp h3 (orc_cmp h4 (orc_cmp h5 (orc_cmp h6 (orc_cmp h7 (orc_cmp h8 (orc_cmp h9 (orc_cmp h10 (orc_cmp h11 (orc_cmp h12 (orc_cmp h13 (orc_cmp h14 (orc_cmp h16 (orc_ne h0 (orc_ne h1 (orc_ne h15 orc_nil))))))))))))))))), planeHypotheses_p16 fl⟩
      · skip
        have h13 := normC (b := (.add (.z 1) (.mul (.v 8) (.v 8)))) (x := (.z 1)) (y := (.z 0)) (f := (.v 8)) (nz := [planeHypotheses_e20, planeHypotheses_e2, (.z 2)]) (varsA ρ) (nz_cons h1 (nz_cons (ne_of_cmp h7 rfl) (nz_cons (two_ne _) nz_nil))) (by kernel_rfl) (one_ne _)
        have h14 := cmpR_zero.2 (eqC (x := planeHypotheses_e17) (y := planeHypotheses_e20) (nz := [planeHypotheses_e20, planeHypotheses_e2, (.add (.z 1) (.mul (.v 8) (.v 8))), (.z 2)]) (varsA ρ) (nz_cons h1 (nz_cons (ne_of_cmp h7 rfl) (nz_cons h13 (nz_cons (two_ne _) nz_nil)))) (by kernel_rfl))
        exact ⟨ρ, planeHypotheses_A17, (fun _ _ => rfl), (orc_cmp h2 (orc_cmp h3 (orc_cmp h4 (orc_cmp h5 (orc_cmp h6 (orc_cmp h7 (orc_cmp h8 (orc_cmp h9 (orc_cmp h10 (orc_cmp h11 (orc_cmp h12 (orc_cmp h14 (orc_ne h0 (orc_ne h1 (orc_ne h13 orc_nil))))))))))))))), planeHypotheses_p17 fl⟩
      · skip
        have h13 := cmpR_zero.2 (eqC (x := planeHypotheses_e105) (y := planeHypotheses_e110) (nz := [planeHypotheses_e20, planeHypotheses_e2, planeHypotheses_e6, (.z 2)]) (varsA ρ) (nz_cons h1 (nz_cons (ne_of_cmp h7 rfl) (nz_cons (ne_of_cmp h12 rfl) (nz_cons (two_ne _) nz_nil)))) (by kernel_rfl))
        have h14 := cmpR_zero.2 (eqC (x := planeHypotheses_e105) (y := planeHypotheses_e115) (nz := [planeHypotheses_e20, planeHypotheses_e2, planeHypotheses_e6, (.z 2)]) (varsA ρ) (nz_cons h1 (nz_cons (ne_of_cmp h7 rfl) (nz_cons (ne_of_cmp h12 rfl) (nz_cons (two_ne _) nz_nil)))) (by kernel_rfl))
        have h15 := normC (b := (.add (.z 1) (.mul (.v 8) (.v 8)))) (x := (.z 1)) (y := (.z 0)) (f := (.v 8)) (nz := [planeHypotheses_e20, planeHypotheses_e2, planeHypotheses_e6, (.z 2)]) (varsA ρ) (nz_cons h1 (nz_cons (ne_of_cmp h7 rfl) (nz_cons (ne_of_cmp h12 rfl) (nz_cons (two_ne _) nz_nil)))) (by kernel_rfl) (one_ne _)
        have h16 := cmpR_zero.2 (eqC (x := planeHypotheses_e17) (y := planeHypotheses_e20) (nz := [planeHypotheses_e20, planeHypotheses_e2, planeHypotheses_e6, (.add (.z 1) (.mul (.v 8) (.v 8))), (.z 2)]) (varsA ρ) (nz_cons h1 (nz_cons (ne_of_cmp h7 rfl) (nz_cons (ne_of_cmp h12 rfl) (nz_cons h15 (nz_cons (two_ne _) nz_nil))))) (by kernel_rfl))
        exact ⟨ρ, planeHypotheses_A18, (fun _ _ => rfl), (orc_cmp h2 (orc_cmp h3 (orc_cmp h4 (orc_cmp h5 (orc_cmp h6 (orc_cmp h7 (orc_cmp h8 (orc_cmp h9 (orc_cmp h10 (orc_cmp h11 (orc_cmp h12 (orc_cmp h13 (orc_cmp h14 (orc_cmp h16 (orc_ne h0 (orc_ne h1 (orc_ne h15 orc_nil))))))))))))))))), planeHypotheses_p18 fl⟩

theorem planeHypotheses_walk {W : World} (T : Tb W) {F : Nat → List Value} {fl : Bool} (hF : ∀ k, k < 9 → NumR W (F k)) :
    Calls Tryz.prog 8 #[.agg (join9 F 9 ++ [Value.bool fl]).toArray] W fun e w' => e = .returned (.bool true) ∧ W.grownBy w' none := by
  refine law13 Tryz.func8 Tryz.call8 T hF (fun k hk => ?_) (fun ρ => ?_)
  · match k, hk with
    | 0, _ => exact planeHypotheses_no0 fl
    | 1, _ => exact planeHypotheses_no1 fl
    | 2, _ => exact planeHypotheses_no2 fl
    | 3, _ => exact planeHypotheses_no3 fl
    | 4, _ => exact planeHypotheses_no4 fl
    | 5, _ => exact planeHypotheses_no5 fl
    | 6, _ => exact planeHypotheses_no6 fl
    | 7, _ => exact planeHypotheses_no7 fl
    | 8, _ => exact planeHypotheses_no8 fl
  · exact planeHypotheses_dec ρ fl
end Go.Proofs.YtgbfjneoieadmaaGreatDoor
