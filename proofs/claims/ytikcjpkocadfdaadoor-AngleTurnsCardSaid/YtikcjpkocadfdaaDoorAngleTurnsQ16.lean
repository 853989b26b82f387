/- Parts of the run of AngleTurns. -/
import Derived.Test.YtikcjpkocadfdaaDoorRows
import Derived.WalkKit
import Derived.ProofKit
import Derived.OpenShut
import Derived.Test.YtikcjpkocadfdaaDoorEvU
import Derived.Test.YtikcjpkocadfdaaDoorAngleTurnsB
import Derived.Test.YtikcjpkocadfdaaDoorAngleTurnsD16k0
namespace Go.Proofs.YtikcjpkocadfdaaDoor.angleTurns
open Go.ChangeShapes Go.WideShapes Go.ChangeAt Go.RowKit
set_option linter.unusedVariables false
section
open Go.Ev
namespace r16
def deads : List (List Fact) := [dead0, dead1, dead2, dead3, dead4, dead5, dead6, dead7, dead8, dead9, dead10, dead11, dead12, dead13, dead14, dead15, dead16, dead17, dead18, dead19, dead20, dead21, dead22, dead23, dead24, dead25, dead26, dead27, dead28, dead29, dead30, dead31, dead32, dead33, dead34, dead35, dead36, dead37, dead38, dead39, dead40, dead41, dead42, dead43, dead44, dead45, dead46, dead47, dead48, dead49, dead50, dead51, dead52, dead53, dead54, dead55, dead56, dead57, dead58, dead59, dead60, dead61, dead62, dead63, dead64, dead65, dead66, dead67, dead68, dead69, dead70, dead71, dead72, dead73, dead74, dead75, dead76, dead77, dead78, dead79, dead80, dead81, dead82, dead83, dead84, dead85, dead86, dead87, dead88, dead89, dead90, dead91, dead92, dead93, dead94, dead95, dead96, dead97, dead98, dead99, dead100, dead101, dead102, dead103, dead104, dead105, dead106, dead107, dead108, dead109, dead110, dead111, dead112, dead113, dead114, dead115, dead116, dead117, dead118, dead119, dead120, dead121, dead122, dead123, dead124, dead125, dead126, dead127, dead128, dead129, dead130, dead131, dead132, dead133, dead134, dead135, dead136, dead137, dead138, dead139, dead140, dead141, dead142, dead143, dead144, dead145, dead146, dead147, dead148, dead149, dead150, dead151, dead152, dead153, dead154, dead155, dead156, dead157, dead158, dead159, dead160, dead161, dead162, dead163, dead164, dead165, dead166, dead167, dead168, dead169, dead170, dead171, dead172, dead173, dead174, dead175, dead176, dead177, dead178, dead179, dead180, dead181, dead182, dead183, dead184, dead185, dead186, dead187, dead188, dead189, dead190, dead191]
def facts0 : List Fact := [⟨(.var 0), 4294967295, true⟩, ⟨(.var 0), (-1), false⟩, ⟨(.var 1), 4294967295, true⟩, ⟨(.var 1), (-1), false⟩, ⟨(.bin .fdiv (.var 0) (.lit 67108864)), 31, true⟩, ⟨(.bin .fdiv (.var 0) (.lit 67108864)), 15, false⟩]

theorem deads_no (v : Nat → Int) : ∀ cl ∈ deads, ¬ ∀ f ∈ cl, f.holds v := by
  intro cl h
  rcases List.mem_cons.1 h with rfl | h
  · exact dead0_no v
  rcases List.mem_cons.1 h with rfl | h
  · exact dead1_no v
  rcases List.mem_cons.1 h with rfl | h
  · exact dead2_no v
  rcases List.mem_cons.1 h with rfl | h
  · exact dead3_no v
  rcases List.mem_cons.1 h with rfl | h
  · exact dead4_no v
  rcases List.mem_cons.1 h with rfl | h
  · exact dead5_no v
  rcases List.mem_cons.1 h with rfl | h
  · exact dead6_no v
  rcases List.mem_cons.1 h with rfl | h
  · exact dead7_no v
  rcases List.mem_cons.1 h with rfl | h
  · exact dead8_no v
  rcases List.mem_cons.1 h with rfl | h
  · exact dead9_no v
  rcases List.mem_cons.1 h with rfl | h
  · exact dead10_no v
  rcases List.mem_cons.1 h with rfl | h
  · exact dead11_no v
  rcases List.mem_cons.1 h with rfl | h
  · exact dead12_no v
  rcases List.mem_cons.1 h with rfl | h
  · exact dead13_no v
  rcases List.mem_cons.1 h with rfl | h
  · exact dead14_no v
  rcases List.mem_cons.1 h with rfl | h
  · exact dead15_no v
  rcases List.mem_cons.1 h with rfl | h
  · exact dead16_no v
  rcases List.mem_cons.1 h with rfl | h
  · exact dead17_no v
  rcases List.mem_cons.1 h with rfl | h
  · exact dead18_no v
  rcases List.mem_cons.1 h with rfl | h
  · exact dead19_no v
  rcases List.mem_cons.1 h with rfl | h
  · exact dead20_no v
  rcases List.mem_cons.1 h with rfl | h
  · exact dead21_no v
  rcases List.mem_cons.1 h with rfl | h
  · exact dead22_no v
  rcases List.mem_cons.1 h with rfl | h
  · exact dead23_no v
  rcases List.mem_cons.1 h with rfl | h
  · exact dead24_no v
  rcases List.mem_cons.1 h with rfl | h
  · exact dead25_no v
  rcases List.mem_cons.1 h with rfl | h
  · exact dead26_no v
  rcases List.mem_cons.1 h with rfl | h
  · exact dead27_no v
  rcases List.mem_cons.1 h with rfl | h
  · exact dead28_no v
  rcases List.mem_cons.1 h with rfl | h
  · exact dead29_no v
  rcases List.mem_cons.1 h with rfl | h
  · exact dead30_no v
  rcases List.mem_cons.1 h with rfl | h
  · exact dead31_no v
  rcases List.mem_cons.1 h with rfl | h
  · exact dead32_no v
  rcases List.mem_cons.1 h with rfl | h
  · exact dead33_no v
  rcases List.mem_cons.1 h with rfl | h
  · exact dead34_no v
  rcases List.mem_cons.1 h with rfl | h
  · exact dead35_no v
  rcases List.mem_cons.1 h with rfl | h
  · exact dead36_no v
  rcases List.mem_cons.1 h with rfl | h
  · exact dead37_no v
  rcases List.mem_cons.1 h with rfl | h
  · exact dead38_no v
  rcases List.mem_cons.1 h with rfl | h
  · exact dead39_no v
  rcases List.mem_cons.1 h with rfl | h
  · exact dead40_no v
  rcases List.mem_cons.1 h with rfl | h
  · exact dead41_no v
  rcases List.mem_cons.1 h with rfl | h
  · exact dead42_no v
  rcases List.mem_cons.1 h with rfl | h
  · exact dead43_no v
  rcases List.mem_cons.1 h with rfl | h
  · exact dead44_no v
  rcases List.mem_cons.1 h with rfl | h
  · exact dead45_no v
  rcases List.mem_cons.1 h with rfl | h
  · exact dead46_no v
  rcases List.mem_cons.1 h with rfl | h
  · exact dead47_no v
  rcases List.mem_cons.1 h with rfl | h
  · exact dead48_no v
  rcases List.mem_cons.1 h with rfl | h
  · exact dead49_no v
  rcases List.mem_cons.1 h with rfl | h
  · exact dead50_no v
  rcases List.mem_cons.1 h with rfl | h
  · exact dead51_no v
  rcases List.mem_cons.1 h with rfl | h
  · exact dead52_no v
  rcases List.mem_cons.1 h with rfl | h
  · exact dead53_no v
  rcases List.mem_cons.1 h with rfl | h
  · exact dead54_no v
  rcases List.mem_cons.1 h with rfl | h
  · exact dead55_no v
  rcases List.mem_cons.1 h with rfl | h
  · exact dead56_no v
  rcases List.mem_cons.1 h with rfl | h
  · exact dead57_no v
  rcases List.mem_cons.1 h with rfl | h
  · exact dead58_no v
  rcases List.mem_cons.1 h with rfl | h
  · exact dead59_no v
  rcases List.mem_cons.1 h with rfl | h
  · exact dead60_no v
  rcases List.mem_cons.1 h with rfl | h
  · exact dead61_no v
  rcases List.mem_cons.1 h with rfl | h
  · exact dead62_no v
  rcases List.mem_cons.1 h with rfl | h
  · exact dead63_no v
  rcases List.mem_cons.1 h with rfl | h
  · exact dead64_no v
  rcases List.mem_cons.1 h with rfl | h
  · exact dead65_no v
  rcases List.mem_cons.1 h with rfl | h
  · exact dead66_no v
  rcases List.mem_cons.1 h with rfl | h
  · exact dead67_no v
  rcases List.mem_cons.1 h with rfl | h
  · exact dead68_no v
  rcases List.mem_cons.1 h with rfl | h
  · exact dead69_no v
  rcases List.mem_cons.1 h with rfl | h
  · exact dead70_no v
  rcases List.mem_cons.1 h with rfl | h
  · exact dead71_no v
  rcases List.mem_cons.1 h with rfl | h
  · exact dead72_no v
  rcases List.mem_cons.1 h with rfl | h
  · exact dead73_no v
  rcases List.mem_cons.1 h with rfl | h
  · exact dead74_no v
  rcases List.mem_cons.1 h with rfl | h
  · exact dead75_no v
  rcases List.mem_cons.1 h with rfl | h
  · exact dead76_no v
  rcases List.mem_cons.1 h with rfl | h
  · exact dead77_no v
  rcases List.mem_cons.1 h with rfl | h
  · exact dead78_no v
  rcases List.mem_cons.1 h with rfl | h
  · exact dead79_no v
  rcases List.mem_cons.1 h with rfl | h
  · exact dead80_no v
  rcases List.mem_cons.1 h with rfl | h
  · exact dead81_no v
  rcases List.mem_cons.1 h with rfl | h
  · exact dead82_no v
  rcases List.mem_cons.1 h with rfl | h
  · exact dead83_no v
  rcases List.mem_cons.1 h with rfl | h
  · exact dead84_no v
  rcases List.mem_cons.1 h with rfl | h
  · exact dead85_no v
  rcases List.mem_cons.1 h with rfl | h
  · exact dead86_no v
  rcases List.mem_cons.1 h with rfl | h
  · exact dead87_no v
  rcases List.mem_cons.1 h with rfl | h
  · exact dead88_no v
  rcases List.mem_cons.1 h with rfl | h
  · exact dead89_no v
  rcases List.mem_cons.1 h with rfl | h
  · exact dead90_no v
  rcases List.mem_cons.1 h with rfl | h
  · exact dead91_no v
  rcases List.mem_cons.1 h with rfl | h
  · exact dead92_no v
  rcases List.mem_cons.1 h with rfl | h
  · exact dead93_no v
  rcases List.mem_cons.1 h with rfl | h
  · exact dead94_no v
  rcases List.mem_cons.1 h with rfl | h
  · exact dead95_no v
  rcases List.mem_cons.1 h with rfl | h
  · exact dead96_no v
  rcases List.mem_cons.1 h with rfl | h
  · exact dead97_no v
  rcases List.mem_cons.1 h with rfl | h
  · exact dead98_no v
  rcases List.mem_cons.1 h with rfl | h
  · exact dead99_no v
  rcases List.mem_cons.1 h with rfl | h
  · exact dead100_no v
  rcases List.mem_cons.1 h with rfl | h
  · exact dead101_no v
  rcases List.mem_cons.1 h with rfl | h
  · exact dead102_no v
  rcases List.mem_cons.1 h with rfl | h
  · exact dead103_no v
  rcases List.mem_cons.1 h with rfl | h
  · exact dead104_no v
  rcases List.mem_cons.1 h with rfl | h
  · exact dead105_no v
  rcases List.mem_cons.1 h with rfl | h
  · exact dead106_no v
  rcases List.mem_cons.1 h with rfl | h
  · exact dead107_no v
  rcases List.mem_cons.1 h with rfl | h
  · exact dead108_no v
  rcases List.mem_cons.1 h with rfl | h
  · exact dead109_no v
  rcases List.mem_cons.1 h with rfl | h
  · exact dead110_no v
  rcases List.mem_cons.1 h with rfl | h
  · exact dead111_no v
  rcases List.mem_cons.1 h with rfl | h
  · exact dead112_no v
  rcases List.mem_cons.1 h with rfl | h
  · exact dead113_no v
  rcases List.mem_cons.1 h with rfl | h
  · exact dead114_no v
  rcases List.mem_cons.1 h with rfl | h
  · exact dead115_no v
  rcases List.mem_cons.1 h with rfl | h
  · exact dead116_no v
  rcases List.mem_cons.1 h with rfl | h
  · exact dead117_no v
  rcases List.mem_cons.1 h with rfl | h
  · exact dead118_no v
  rcases List.mem_cons.1 h with rfl | h
  · exact dead119_no v
  rcases List.mem_cons.1 h with rfl | h
  · exact dead120_no v
  rcases List.mem_cons.1 h with rfl | h
  · exact dead121_no v
  rcases List.mem_cons.1 h with rfl | h
  · exact dead122_no v
  rcases List.mem_cons.1 h with rfl | h
  · exact dead123_no v
  rcases List.mem_cons.1 h with rfl | h
  · exact dead124_no v
  rcases List.mem_cons.1 h with rfl | h
  · exact dead125_no v
  rcases List.mem_cons.1 h with rfl | h
  · exact dead126_no v
  rcases List.mem_cons.1 h with rfl | h
  · exact dead127_no v
  rcases List.mem_cons.1 h with rfl | h
  · exact dead128_no v
  rcases List.mem_cons.1 h with rfl | h
  · exact dead129_no v
  rcases List.mem_cons.1 h with rfl | h
  · exact dead130_no v
  rcases List.mem_cons.1 h with rfl | h
  · exact dead131_no v
  rcases List.mem_cons.1 h with rfl | h
  · exact dead132_no v
  rcases List.mem_cons.1 h with rfl | h
  · exact dead133_no v
  rcases List.mem_cons.1 h with rfl | h
  · exact dead134_no v
  rcases List.mem_cons.1 h with rfl | h
  · exact dead135_no v
  rcases List.mem_cons.1 h with rfl | h
  · exact dead136_no v
  rcases List.mem_cons.1 h with rfl | h
  · exact dead137_no v
  rcases List.mem_cons.1 h with rfl | h
  · exact dead138_no v
  rcases List.mem_cons.1 h with rfl | h
  · exact dead139_no v
  rcases List.mem_cons.1 h with rfl | h
  · exact dead140_no v
  rcases List.mem_cons.1 h with rfl | h
  · exact dead141_no v
  rcases List.mem_cons.1 h with rfl | h
  · exact dead142_no v
  rcases List.mem_cons.1 h with rfl | h
  · exact dead143_no v
  rcases List.mem_cons.1 h with rfl | h
  · exact dead144_no v
  rcases List.mem_cons.1 h with rfl | h
  · exact dead145_no v
  rcases List.mem_cons.1 h with rfl | h
  · exact dead146_no v
  rcases List.mem_cons.1 h with rfl | h
  · exact dead147_no v
  rcases List.mem_cons.1 h with rfl | h
  · exact dead148_no v
  rcases List.mem_cons.1 h with rfl | h
  · exact dead149_no v
  rcases List.mem_cons.1 h with rfl | h
  · exact dead150_no v
  rcases List.mem_cons.1 h with rfl | h
  · exact dead151_no v
  rcases List.mem_cons.1 h with rfl | h
  · exact dead152_no v
  rcases List.mem_cons.1 h with rfl | h
  · exact dead153_no v
  rcases List.mem_cons.1 h with rfl | h
  · exact dead154_no v
  rcases List.mem_cons.1 h with rfl | h
  · exact dead155_no v
  rcases List.mem_cons.1 h with rfl | h
  · exact dead156_no v
  rcases List.mem_cons.1 h with rfl | h
  · exact dead157_no v
  rcases List.mem_cons.1 h with rfl | h
  · exact dead158_no v
  rcases List.mem_cons.1 h with rfl | h
  · exact dead159_no v
  rcases List.mem_cons.1 h with rfl | h
  · exact dead160_no v
  rcases List.mem_cons.1 h with rfl | h
  · exact dead161_no v
  rcases List.mem_cons.1 h with rfl | h
  · exact dead162_no v
  rcases List.mem_cons.1 h with rfl | h
  · exact dead163_no v
  rcases List.mem_cons.1 h with rfl | h
  · exact dead164_no v
  rcases List.mem_cons.1 h with rfl | h
  · exact dead165_no v
  rcases List.mem_cons.1 h with rfl | h
  · exact dead166_no v
  rcases List.mem_cons.1 h with rfl | h
  · exact dead167_no v
  rcases List.mem_cons.1 h with rfl | h
  · exact dead168_no v
  rcases List.mem_cons.1 h with rfl | h
  · exact dead169_no v
  rcases List.mem_cons.1 h with rfl | h
  · exact dead170_no v
  rcases List.mem_cons.1 h with rfl | h
  · exact dead171_no v
  rcases List.mem_cons.1 h with rfl | h
  · exact dead172_no v
  rcases List.mem_cons.1 h with rfl | h
  · exact dead173_no v
  rcases List.mem_cons.1 h with rfl | h
  · exact dead174_no v
  rcases List.mem_cons.1 h with rfl | h
  · exact dead175_no v
  rcases List.mem_cons.1 h with rfl | h
  · exact dead176_no v
  rcases List.mem_cons.1 h with rfl | h
  · exact dead177_no v
  rcases List.mem_cons.1 h with rfl | h
  · exact dead178_no v
  rcases List.mem_cons.1 h with rfl | h
  · exact dead179_no v
  rcases List.mem_cons.1 h with rfl | h
  · exact dead180_no v
  rcases List.mem_cons.1 h with rfl | h
  · exact dead181_no v
  rcases List.mem_cons.1 h with rfl | h
  · exact dead182_no v
  rcases List.mem_cons.1 h with rfl | h
  · exact dead183_no v
  rcases List.mem_cons.1 h with rfl | h
  · exact dead184_no v
  rcases List.mem_cons.1 h with rfl | h
  · exact dead185_no v
  rcases List.mem_cons.1 h with rfl | h
  · exact dead186_no v
  rcases List.mem_cons.1 h with rfl | h
  · exact dead187_no v
  rcases List.mem_cons.1 h with rfl | h
  · exact dead188_no v
  rcases List.mem_cons.1 h with rfl | h
  · exact dead189_no v
  rcases List.mem_cons.1 h with rfl | h
  · exact dead190_no v
  rcases List.mem_cons.1 h with rfl | h
  · exact dead191_no v
  cases h
noncomputable def theRun : List Fact → Bool := fun F => @runS ⟨F⟩ Tryd.prog [(72, Go.Ev.Ext.add64), (60, Go.Ev.Ext.sub64)] [(0, tabled.map (Go.Ev.EV.int .i64))] 300 7 args0 isTrue
def part0 : STree := (.split (.bin .sub (.wrap .u32 (.bin .add (.wrap .u32 (.bin .add (.var 0) (.wrap .u32 (.bin .mul (.var 1) (.wrap .u32 (.var 2)))))) (.wrap .u32 (.bin .mul (.var 1) (.wrap .u32 (.var 3)))))) (.wrap .u32 (.bin .add (.var 0) (.wrap .u32 (.bin .mul (.var 1) (.wrap .u32 (.wrap .i64 (.bin .add (.var 2) (.var 3))))))))) (-1) (.dead 0) (.split (.bin .sub (.wrap .u32 (.bin .add (.wrap .u32 (.bin .add (.var 0) (.wrap .u32 (.bin .mul (.var 1) (.wrap .u32 (.var 2)))))) (.wrap .u32 (.bin .mul (.var 1) (.wrap .u32 (.var 3)))))) (.wrap .u32 (.bin .add (.var 0) (.wrap .u32 (.bin .mul (.var 1) (.wrap .u32 (.wrap .i64 (.bin .add (.var 2) (.var 3))))))))) 0 (.split (.bin .sub (.wrap .u32 (.wrap .i32 (.wrap .u32 (.bin .sub (.wrap .u32 (.bin .add (.var 0) (.bin .mul (.var 1) (.lit 1)))) (.var 0))))) (.var 1)) (-1) (.dead 1) (.split (.bin .sub (.wrap .u32 (.wrap .i32 (.wrap .u32 (.bin .sub (.wrap .u32 (.bin .add (.var 0) (.bin .mul (.var 1) (.lit 1)))) (.var 0))))) (.var 1)) 0 (.split (.bin .fdiv (.var 0) (.lit 67108864)) 23 (.split (.bin .fdiv (.var 0) (.lit 67108864)) 19 (.split (.bin .fdiv (.var 0) (.lit 67108864)) 17 (.split (.bin .fdiv (.var 0) (.lit 67108864)) 16 (.split (.bin .rem (.var 4) (.lit 1000)) (-1) (.split (.bin .sub (.bin .add (.lit 0) (.bin .mul (.bin .mul (.bin .add (.lit 1) (.bin .add (.bin .rem (.var 4) (.lit 1000)) (.lit 1000))) (.lit 127)) (.lit 127))) (.bin .mul (.bin .add (.lit 1) (.bin .add (.bin .rem (.var 4) (.lit 1000)) (.lit 1000))) (.lit 16129))) (-1) (.dead 2) (.split (.bin .sub (.bin .add (.lit 0) (.bin .mul (.bin .mul (.bin .add (.lit 1) (.bin .add (.bin .rem (.var 4) (.lit 1000)) (.lit 1000))) (.lit 127)) (.lit 127))) (.bin .mul (.bin .add (.lit 1) (.bin .add (.bin .rem (.var 4) (.lit 1000)) (.lit 1000))) (.lit 16129))) 0 (.split (.bin .sub (.bin .add (.lit 0) (.bin .mul (.bin .mul (.bin .add (.lit 1) (.bin .add (.bin .rem (.var 4) (.lit 1000)) (.lit 1000))) (.lit 127)) (.lit 127))) (.bin .mul (.lit 16020) (.bin .add (.lit 1) (.bin .add (.bin .rem (.var 4) (.lit 1000)) (.lit 1000))))) (-1) (.dead 3) (.split (.bin .sub (.bin .mul (.lit 16277) (.bin .add (.lit 1) (.bin .add (.bin .rem (.var 4) (.lit 1000)) (.lit 1000)))) (.bin .add (.lit 0) (.bin .mul (.bin .mul (.bin .add (.lit 1) (.bin .add (.bin .rem (.var 4) (.lit 1000)) (.lit 1000))) (.lit 127)) (.lit 127)))) (-1) (.dead 4) .leaf)) (.dead 5))) (.split (.bin .sub (.bin .add (.lit 0) (.bin .mul (.bin .mul (.bin .add (.lit 1) (.bin .rem (.var 4) (.lit 1000))) (.lit 127)) (.lit 127))) (.bin .mul (.bin .add (.lit 1) (.bin .rem (.var 4) (.lit 1000))) (.lit 16129))) (-1) (.dead 6) (.split (.bin .sub (.bin .add (.lit 0) (.bin .mul (.bin .mul (.bin .add (.lit 1) (.bin .rem (.var 4) (.lit 1000))) (.lit 127)) (.lit 127))) (.bin .mul (.bin .add (.lit 1) (.bin .rem (.var 4) (.lit 1000))) (.lit 16129))) 0 (.split (.bin .sub (.bin .add (.lit 0) (.bin .mul (.bin .mul (.bin .add (.lit 1) (.bin .rem (.var 4) (.lit 1000))) (.lit 127)) (.lit 127))) (.bin .mul (.lit 16020) (.bin .add (.lit 1) (.bin .rem (.var 4) (.lit 1000))))) (-1) (.dead 7) (.split (.bin .sub (.bin .mul (.lit 16277) (.bin .add (.lit 1) (.bin .rem (.var 4) (.lit 1000)))) (.bin .add (.lit 0) (.bin .mul (.bin .mul (.bin .add (.lit 1) (.bin .rem (.var 4) (.lit 1000))) (.lit 127)) (.lit 127)))) (-1) (.dead 8) .leaf)) (.dead 9)))) (.split (.bin .rem (.var 4) (.lit 1000)) (-1) (.split (.bin .sub (.bin .mul (.bin .mul (.bin .add (.lit 1) (.bin .add (.bin .rem (.var 4) (.lit 1000)) (.lit 1000))) (.lit 126)) (.lit (-12))) (.bin .mul (.bin .mul (.bin .add (.lit 1) (.bin .add (.bin .rem (.var 4) (.lit 1000)) (.lit 1000))) (.lit (-12))) (.lit 126))) (-1) (.dead 10) (.split (.bin .sub (.bin .mul (.bin .mul (.bin .add (.lit 1) (.bin .add (.bin .rem (.var 4) (.lit 1000)) (.lit 1000))) (.lit 126)) (.lit (-12))) (.bin .mul (.bin .mul (.bin .add (.lit 1) (.bin .add (.bin .rem (.var 4) (.lit 1000)) (.lit 1000))) (.lit (-12))) (.lit 126))) 0 (.split (.bin .sub (.bin .add (.bin .mul (.bin .mul (.bin .add (.lit 1) (.bin .add (.bin .rem (.var 4) (.lit 1000)) (.lit 1000))) (.lit (-12))) (.lit (-12))) (.bin .mul (.bin .mul (.bin .add (.lit 1) (.bin .add (.bin .rem (.var 4) (.lit 1000)) (.lit 1000))) (.lit 126)) (.lit 126))) (.bin .mul (.bin .add (.lit 1) (.bin .add (.bin .rem (.var 4) (.lit 1000)) (.lit 1000))) (.lit 16020))) (-1) (.dead 11) (.split (.bin .sub (.bin .add (.bin .mul (.bin .mul (.bin .add (.lit 1) (.bin .add (.bin .rem (.var 4) (.lit 1000)) (.lit 1000))) (.lit (-12))) (.lit (-12))) (.bin .mul (.bin .mul (.bin .add (.lit 1) (.bin .add (.bin .rem (.var 4) (.lit 1000)) (.lit 1000))) (.lit 126)) (.lit 126))) (.bin .mul (.bin .add (.lit 1) (.bin .add (.bin .rem (.var 4) (.lit 1000)) (.lit 1000))) (.lit 16020))) 0 (.split (.bin .sub (.bin .add (.bin .mul (.bin .mul (.bin .add (.lit 1) (.bin .add (.bin .rem (.var 4) (.lit 1000)) (.lit 1000))) (.lit (-12))) (.lit (-12))) (.bin .mul (.bin .mul (.bin .add (.lit 1) (.bin .add (.bin .rem (.var 4) (.lit 1000)) (.lit 1000))) (.lit 126)) (.lit 126))) (.bin .mul (.lit 16020) (.bin .add (.lit 1) (.bin .add (.bin .rem (.var 4) (.lit 1000)) (.lit 1000))))) (-1) (.dead 12) (.split (.bin .sub (.bin .mul (.lit 16277) (.bin .add (.lit 1) (.bin .add (.bin .rem (.var 4) (.lit 1000)) (.lit 1000)))) (.bin .add (.bin .mul (.bin .mul (.bin .add (.lit 1) (.bin .add (.bin .rem (.var 4) (.lit 1000)) (.lit 1000))) (.lit (-12))) (.lit (-12))) (.bin .mul (.bin .mul (.bin .add (.lit 1) (.bin .add (.bin .rem (.var 4) (.lit 1000)) (.lit 1000))) (.lit 126)) (.lit 126)))) (-1) (.dead 13) .leaf)) (.dead 14))) (.dead 15))) (.split (.bin .sub (.bin .mul (.bin .mul (.bin .add (.lit 1) (.bin .rem (.var 4) (.lit 1000))) (.lit 126)) (.lit (-12))) (.bin .mul (.bin .mul (.bin .add (.lit 1) (.bin .rem (.var 4) (.lit 1000))) (.lit (-12))) (.lit 126))) (-1) (.dead 16) (.split (.bin .sub (.bin .mul (.bin .mul (.bin .add (.lit 1) (.bin .rem (.var 4) (.lit 1000))) (.lit 126)) (.lit (-12))) (.bin .mul (.bin .mul (.bin .add (.lit 1) (.bin .rem (.var 4) (.lit 1000))) (.lit (-12))) (.lit 126))) 0 (.split (.bin .sub (.bin .add (.bin .mul (.bin .mul (.bin .add (.lit 1) (.bin .rem (.var 4) (.lit 1000))) (.lit (-12))) (.lit (-12))) (.bin .mul (.bin .mul (.bin .add (.lit 1) (.bin .rem (.var 4) (.lit 1000))) (.lit 126)) (.lit 126))) (.bin .mul (.bin .add (.lit 1) (.bin .rem (.var 4) (.lit 1000))) (.lit 16020))) (-1) (.dead 17) (.split (.bin .sub (.bin .add (.bin .mul (.bin .mul (.bin .add (.lit 1) (.bin .rem (.var 4) (.lit 1000))) (.lit (-12))) (.lit (-12))) (.bin .mul (.bin .mul (.bin .add (.lit 1) (.bin .rem (.var 4) (.lit 1000))) (.lit 126)) (.lit 126))) (.bin .mul (.bin .add (.lit 1) (.bin .rem (.var 4) (.lit 1000))) (.lit 16020))) 0 (.split (.bin .sub (.bin .add (.bin .mul (.bin .mul (.bin .add (.lit 1) (.bin .rem (.var 4) (.lit 1000))) (.lit (-12))) (.lit (-12))) (.bin .mul (.bin .mul (.bin .add (.lit 1) (.bin .rem (.var 4) (.lit 1000))) (.lit 126)) (.lit 126))) (.bin .mul (.lit 16020) (.bin .add (.lit 1) (.bin .rem (.var 4) (.lit 1000))))) (-1) (.dead 18) (.split (.bin .sub (.bin .mul (.lit 16277) (.bin .add (.lit 1) (.bin .rem (.var 4) (.lit 1000)))) (.bin .add (.bin .mul (.bin .mul (.bin .add (.lit 1) (.bin .rem (.var 4) (.lit 1000))) (.lit (-12))) (.lit (-12))) (.bin .mul (.bin .mul (.bin .add (.lit 1) (.bin .rem (.var 4) (.lit 1000))) (.lit 126)) (.lit 126)))) (-1) (.dead 19) .leaf)) (.dead 20))) (.dead 21))))) (.split (.bin .fdiv (.var 0) (.lit 67108864)) 18 (.split (.bin .rem (.var 4) (.lit 1000)) (-1) (.split (.bin .sub (.bin .mul (.bin .mul (.bin .add (.lit 1) (.bin .add (.bin .rem (.var 4) (.lit 1000)) (.lit 1000))) (.lit 125)) (.lit (-25))) (.bin .mul (.bin .mul (.bin .add (.lit 1) (.bin .add (.bin .rem (.var 4) (.lit 1000)) (.lit 1000))) (.lit (-25))) (.lit 125))) (-1) (.dead 22) (.split (.bin .sub (.bin .mul (.bin .mul (.bin .add (.lit 1) (.bin .add (.bin .rem (.var 4) (.lit 1000)) (.lit 1000))) (.lit 125)) (.lit (-25))) (.bin .mul (.bin .mul (.bin .add (.lit 1) (.bin .add (.bin .rem (.var 4) (.lit 1000)) (.lit 1000))) (.lit (-25))) (.lit 125))) 0 (.split (.bin .sub (.bin .add (.bin .mul (.bin .mul (.bin .add (.lit 1) (.bin .add (.bin .rem (.var 4) (.lit 1000)) (.lit 1000))) (.lit (-25))) (.lit (-25))) (.bin .mul (.bin .mul (.bin .add (.lit 1) (.bin .add (.bin .rem (.var 4) (.lit 1000)) (.lit 1000))) (.lit 125)) (.lit 125))) (.bin .mul (.bin .add (.lit 1) (.bin .add (.bin .rem (.var 4) (.lit 1000)) (.lit 1000))) (.lit 16250))) (-1) (.dead 23) (.split (.bin .sub (.bin .add (.bin .mul (.bin .mul (.bin .add (.lit 1) (.bin .add (.bin .rem (.var 4) (.lit 1000)) (.lit 1000))) (.lit (-25))) (.lit (-25))) (.bin .mul (.bin .mul (.bin .add (.lit 1) (.bin .add (.bin .rem (.var 4) (.lit 1000)) (.lit 1000))) (.lit 125)) (.lit 125))) (.bin .mul (.bin .add (.lit 1) (.bin .add (.bin .rem (.var 4) (.lit 1000)) (.lit 1000))) (.lit 16250))) 0 (.split (.bin .sub (.bin .add (.bin .mul (.bin .mul (.bin .add (.lit 1) (.bin .add (.bin .rem (.var 4) (.lit 1000)) (.lit 1000))) (.lit (-25))) (.lit (-25))) (.bin .mul (.bin .mul (.bin .add (.lit 1) (.bin .add (.bin .rem (.var 4) (.lit 1000)) (.lit 1000))) (.lit 125)) (.lit 125))) (.bin .mul (.lit 16020) (.bin .add (.lit 1) (.bin .add (.bin .rem (.var 4) (.lit 1000)) (.lit 1000))))) (-1) (.dead 24) (.split (.bin .sub (.bin .mul (.lit 16277) (.bin .add (.lit 1) (.bin .add (.bin .rem (.var 4) (.lit 1000)) (.lit 1000)))) (.bin .add (.bin .mul (.bin .mul (.bin .add (.lit 1) (.bin .add (.bin .rem (.var 4) (.lit 1000)) (.lit 1000))) (.lit (-25))) (.lit (-25))) (.bin .mul (.bin .mul (.bin .add (.lit 1) (.bin .add (.bin .rem (.var 4) (.lit 1000)) (.lit 1000))) (.lit 125)) (.lit 125)))) (-1) (.dead 25) .leaf)) (.dead 26))) (.dead 27))) (.split (.bin .sub (.bin .mul (.bin .mul (.bin .add (.lit 1) (.bin .rem (.var 4) (.lit 1000))) (.lit 125)) (.lit (-25))) (.bin .mul (.bin .mul (.bin .add (.lit 1) (.bin .rem (.var 4) (.lit 1000))) (.lit (-25))) (.lit 125))) (-1) (.dead 28) (.split (.bin .sub (.bin .mul (.bin .mul (.bin .add (.lit 1) (.bin .rem (.var 4) (.lit 1000))) (.lit 125)) (.lit (-25))) (.bin .mul (.bin .mul (.bin .add (.lit 1) (.bin .rem (.var 4) (.lit 1000))) (.lit (-25))) (.lit 125))) 0 (.split (.bin .sub (.bin .add (.bin .mul (.bin .mul (.bin .add (.lit 1) (.bin .rem (.var 4) (.lit 1000))) (.lit (-25))) (.lit (-25))) (.bin .mul (.bin .mul (.bin .add (.lit 1) (.bin .rem (.var 4) (.lit 1000))) (.lit 125)) (.lit 125))) (.bin .mul (.bin .add (.lit 1) (.bin .rem (.var 4) (.lit 1000))) (.lit 16250))) (-1) (.dead 29) (.split (.bin .sub (.bin .add (.bin .mul (.bin .mul (.bin .add (.lit 1) (.bin .rem (.var 4) (.lit 1000))) (.lit (-25))) (.lit (-25))) (.bin .mul (.bin .mul (.bin .add (.lit 1) (.bin .rem (.var 4) (.lit 1000))) (.lit 125)) (.lit 125))) (.bin .mul (.bin .add (.lit 1) (.bin .rem (.var 4) (.lit 1000))) (.lit 16250))) 0 (.split (.bin .sub (.bin .add (.bin .mul (.bin .mul (.bin .add (.lit 1) (.bin .rem (.var 4) (.lit 1000))) (.lit (-25))) (.lit (-25))) (.bin .mul (.bin .mul (.bin .add (.lit 1) (.bin .rem (.var 4) (.lit 1000))) (.lit 125)) (.lit 125))) (.bin .mul (.lit 16020) (.bin .add (.lit 1) (.bin .rem (.var 4) (.lit 1000))))) (-1) (.dead 30) (.split (.bin .sub (.bin .mul (.lit 16277) (.bin .add (.lit 1) (.bin .rem (.var 4) (.lit 1000)))) (.bin .add (.bin .mul (.bin .mul (.bin .add (.lit 1) (.bin .rem (.var 4) (.lit 1000))) (.lit (-25))) (.lit (-25))) (.bin .mul (.bin .mul (.bin .add (.lit 1) (.bin .rem (.var 4) (.lit 1000))) (.lit 125)) (.lit 125)))) (-1) (.dead 31) .leaf)) (.dead 32))) (.dead 33)))) (.split (.bin .rem (.var 4) (.lit 1000)) (-1) (.split (.bin .sub (.bin .mul (.bin .mul (.bin .add (.lit 1) (.bin .add (.bin .rem (.var 4) (.lit 1000)) (.lit 1000))) (.lit 122)) (.lit (-37))) (.bin .mul (.bin .mul (.bin .add (.lit 1) (.bin .add (.bin .rem (.var 4) (.lit 1000)) (.lit 1000))) (.lit (-37))) (.lit 122))) (-1) (.dead 34) (.split (.bin .sub (.bin .mul (.bin .mul (.bin .add (.lit 1) (.bin .add (.bin .rem (.var 4) (.lit 1000)) (.lit 1000))) (.lit 122)) (.lit (-37))) (.bin .mul (.bin .mul (.bin .add (.lit 1) (.bin .add (.bin .rem (.var 4) (.lit 1000)) (.lit 1000))) (.lit (-37))) (.lit 122))) 0 (.split (.bin .sub (.bin .add (.bin .mul (.bin .mul (.bin .add (.lit 1) (.bin .add (.bin .rem (.var 4) (.lit 1000)) (.lit 1000))) (.lit (-37))) (.lit (-37))) (.bin .mul (.bin .mul (.bin .add (.lit 1) (.bin .add (.bin .rem (.var 4) (.lit 1000)) (.lit 1000))) (.lit 122)) (.lit 122))) (.bin .mul (.bin .add (.lit 1) (.bin .add (.bin .rem (.var 4) (.lit 1000)) (.lit 1000))) (.lit 16253))) (-1) (.dead 35) (.split (.bin .sub (.bin .add (.bin .mul (.bin .mul (.bin .add (.lit 1) (.bin .add (.bin .rem (.var 4) (.lit 1000)) (.lit 1000))) (.lit (-37))) (.lit (-37))) (.bin .mul (.bin .mul (.bin .add (.lit 1) (.bin .add (.bin .rem (.var 4) (.lit 1000)) (.lit 1000))) (.lit 122)) (.lit 122))) (.bin .mul (.bin .add (.lit 1) (.bin .add (.bin .rem (.var 4) (.lit 1000)) (.lit 1000))) (.lit 16253))) 0 (.split (.bin .sub (.bin .add (.bin .mul (.bin .mul (.bin .add (.lit 1) (.bin .add (.bin .rem (.var 4) (.lit 1000)) (.lit 1000))) (.lit (-37))) (.lit (-37))) (.bin .mul (.bin .mul (.bin .add (.lit 1) (.bin .add (.bin .rem (.var 4) (.lit 1000)) (.lit 1000))) (.lit 122)) (.lit 122))) (.bin .mul (.lit 16020) (.bin .add (.lit 1) (.bin .add (.bin .rem (.var 4) (.lit 1000)) (.lit 1000))))) (-1) (.dead 36) (.split (.bin .sub (.bin .mul (.lit 16277) (.bin .add (.lit 1) (.bin .add (.bin .rem (.var 4) (.lit 1000)) (.lit 1000)))) (.bin .add (.bin .mul (.bin .mul (.bin .add (.lit 1) (.bin .add (.bin .rem (.var 4) (.lit 1000)) (.lit 1000))) (.lit (-37))) (.lit (-37))) (.bin .mul (.bin .mul (.bin .add (.lit 1) (.bin .add (.bin .rem (.var 4) (.lit 1000)) (.lit 1000))) (.lit 122)) (.lit 122)))) (-1) (.dead 37) .leaf)) (.dead 38))) (.dead 39))) (.split (.bin .sub (.bin .mul (.bin .mul (.bin .add (.lit 1) (.bin .rem (.var 4) (.lit 1000))) (.lit 122)) (.lit (-37))) (.bin .mul (.bin .mul (.bin .add (.lit 1) (.bin .rem (.var 4) (.lit 1000))) (.lit (-37))) (.lit 122))) (-1) (.dead 40) (.split (.bin .sub (.bin .mul (.bin .mul (.bin .add (.lit 1) (.bin .rem (.var 4) (.lit 1000))) (.lit 122)) (.lit (-37))) (.bin .mul (.bin .mul (.bin .add (.lit 1) (.bin .rem (.var 4) (.lit 1000))) (.lit (-37))) (.lit 122))) 0 (.split (.bin .sub (.bin .add (.bin .mul (.bin .mul (.bin .add (.lit 1) (.bin .rem (.var 4) (.lit 1000))) (.lit (-37))) (.lit (-37))) (.bin .mul (.bin .mul (.bin .add (.lit 1) (.bin .rem (.var 4) (.lit 1000))) (.lit 122)) (.lit 122))) (.bin .mul (.bin .add (.lit 1) (.bin .rem (.var 4) (.lit 1000))) (.lit 16253))) (-1) (.dead 41) (.split (.bin .sub (.bin .add (.bin .mul (.bin .mul (.bin .add (.lit 1) (.bin .rem (.var 4) (.lit 1000))) (.lit (-37))) (.lit (-37))) (.bin .mul (.bin .mul (.bin .add (.lit 1) (.bin .rem (.var 4) (.lit 1000))) (.lit 122)) (.lit 122))) (.bin .mul (.bin .add (.lit 1) (.bin .rem (.var 4) (.lit 1000))) (.lit 16253))) 0 (.split (.bin .sub (.bin .add (.bin .mul (.bin .mul (.bin .add (.lit 1) (.bin .rem (.var 4) (.lit 1000))) (.lit (-37))) (.lit (-37))) (.bin .mul (.bin .mul (.bin .add (.lit 1) (.bin .rem (.var 4) (.lit 1000))) (.lit 122)) (.lit 122))) (.bin .mul (.lit 16020) (.bin .add (.lit 1) (.bin .rem (.var 4) (.lit 1000))))) (-1) (.dead 42) (.split (.bin .sub (.bin .mul (.lit 16277) (.bin .add (.lit 1) (.bin .rem (.var 4) (.lit 1000)))) (.bin .add (.bin .mul (.bin .mul (.bin .add (.lit 1) (.bin .rem (.var 4) (.lit 1000))) (.lit (-37))) (.lit (-37))) (.bin .mul (.bin .mul (.bin .add (.lit 1) (.bin .rem (.var 4) (.lit 1000))) (.lit 122)) (.lit 122)))) (-1) (.dead 43) .leaf)) (.dead 44))) (.dead 45)))))) (.split (.bin .fdiv (.var 0) (.lit 67108864)) 21 (.split (.bin .fdiv (.var 0) (.lit 67108864)) 20 (.split (.bin .rem (.var 4) (.lit 1000)) (-1) (.split (.bin .sub (.bin .mul (.bin .mul (.bin .add (.lit 1) (.bin .add (.bin .rem (.var 4) (.lit 1000)) (.lit 1000))) (.lit 117)) (.lit (-49))) (.bin .mul (.bin .mul (.bin .add (.lit 1) (.bin .add (.bin .rem (.var 4) (.lit 1000)) (.lit 1000))) (.lit (-49))) (.lit 117))) (-1) (.dead 46) (.split (.bin .sub (.bin .mul (.bin .mul (.bin .add (.lit 1) (.bin .add (.bin .rem (.var 4) (.lit 1000)) (.lit 1000))) (.lit 117)) (.lit (-49))) (.bin .mul (.bin .mul (.bin .add (.lit 1) (.bin .add (.bin .rem (.var 4) (.lit 1000)) (.lit 1000))) (.lit (-49))) (.lit 117))) 0 (.split (.bin .sub (.bin .add (.bin .mul (.bin .mul (.bin .add (.lit 1) (.bin .add (.bin .rem (.var 4) (.lit 1000)) (.lit 1000))) (.lit (-49))) (.lit (-49))) (.bin .mul (.bin .mul (.bin .add (.lit 1) (.bin .add (.bin .rem (.var 4) (.lit 1000)) (.lit 1000))) (.lit 117)) (.lit 117))) (.bin .mul (.bin .add (.lit 1) (.bin .add (.bin .rem (.var 4) (.lit 1000)) (.lit 1000))) (.lit 16090))) (-1) (.dead 47) (.split (.bin .sub (.bin .add (.bin .mul (.bin .mul (.bin .add (.lit 1) (.bin .add (.bin .rem (.var 4) (.lit 1000)) (.lit 1000))) (.lit (-49))) (.lit (-49))) (.bin .mul (.bin .mul (.bin .add (.lit 1) (.bin .add (.bin .rem (.var 4) (.lit 1000)) (.lit 1000))) (.lit 117)) (.lit 117))) (.bin .mul (.bin .add (.lit 1) (.bin .add (.bin .rem (.var 4) (.lit 1000)) (.lit 1000))) (.lit 16090))) 0 (.split (.bin .sub (.bin .add (.bin .mul (.bin .mul (.bin .add (.lit 1) (.bin .add (.bin .rem (.var 4) (.lit 1000)) (.lit 1000))) (.lit (-49))) (.lit (-49))) (.bin .mul (.bin .mul (.bin .add (.lit 1) (.bin .add (.bin .rem (.var 4) (.lit 1000)) (.lit 1000))) (.lit 117)) (.lit 117))) (.bin .mul (.lit 16020) (.bin .add (.lit 1) (.bin .add (.bin .rem (.var 4) (.lit 1000)) (.lit 1000))))) (-1) (.dead 48) (.split (.bin .sub (.bin .mul (.lit 16277) (.bin .add (.lit 1) (.bin .add (.bin .rem (.var 4) (.lit 1000)) (.lit 1000)))) (.bin .add (.bin .mul (.bin .mul (.bin .add (.lit 1) (.bin .add (.bin .rem (.var 4) (.lit 1000)) (.lit 1000))) (.lit (-49))) (.lit (-49))) (.bin .mul (.bin .mul (.bin .add (.lit 1) (.bin .add (.bin .rem (.var 4) (.lit 1000)) (.lit 1000))) (.lit 117)) (.lit 117)))) (-1) (.dead 49) .leaf)) (.dead 50))) (.dead 51))) (.split (.bin .sub (.bin .mul (.bin .mul (.bin .add (.lit 1) (.bin .rem (.var 4) (.lit 1000))) (.lit 117)) (.lit (-49))) (.bin .mul (.bin .mul (.bin .add (.lit 1) (.bin .rem (.var 4) (.lit 1000))) (.lit (-49))) (.lit 117))) (-1) (.dead 52) (.split (.bin .sub (.bin .mul (.bin .mul (.bin .add (.lit 1) (.bin .rem (.var 4) (.lit 1000))) (.lit 117)) (.lit (-49))) (.bin .mul (.bin .mul (.bin .add (.lit 1) (.bin .rem (.var 4) (.lit 1000))) (.lit (-49))) (.lit 117))) 0 (.split (.bin .sub (.bin .add (.bin .mul (.bin .mul (.bin .add (.lit 1) (.bin .rem (.var 4) (.lit 1000))) (.lit (-49))) (.lit (-49))) (.bin .mul (.bin .mul (.bin .add (.lit 1) (.bin .rem (.var 4) (.lit 1000))) (.lit 117)) (.lit 117))) (.bin .mul (.bin .add (.lit 1) (.bin .rem (.var 4) (.lit 1000))) (.lit 16090))) (-1) (.dead 53) (.split (.bin .sub (.bin .add (.bin .mul (.bin .mul (.bin .add (.lit 1) (.bin .rem (.var 4) (.lit 1000))) (.lit (-49))) (.lit (-49))) (.bin .mul (.bin .mul (.bin .add (.lit 1) (.bin .rem (.var 4) (.lit 1000))) (.lit 117)) (.lit 117))) (.bin .mul (.bin .add (.lit 1) (.bin .rem (.var 4) (.lit 1000))) (.lit 16090))) 0 (.split (.bin .sub (.bin .add (.bin .mul (.bin .mul (.bin .add (.lit 1) (.bin .rem (.var 4) (.lit 1000))) (.lit (-49))) (.lit (-49))) (.bin .mul (.bin .mul (.bin .add (.lit 1) (.bin .rem (.var 4) (.lit 1000))) (.lit 117)) (.lit 117))) (.bin .mul (.lit 16020) (.bin .add (.lit 1) (.bin .rem (.var 4) (.lit 1000))))) (-1) (.dead 54) (.split (.bin .sub (.bin .mul (.lit 16277) (.bin .add (.lit 1) (.bin .rem (.var 4) (.lit 1000)))) (.bin .add (.bin .mul (.bin .mul (.bin .add (.lit 1) (.bin .rem (.var 4) (.lit 1000))) (.lit (-49))) (.lit (-49))) (.bin .mul (.bin .mul (.bin .add (.lit 1) (.bin .rem (.var 4) (.lit 1000))) (.lit 117)) (.lit 117)))) (-1) (.dead 55) .leaf)) (.dead 56))) (.dead 57)))) (.split (.bin .rem (.var 4) (.lit 1000)) (-1) (.split (.bin .sub (.bin .mul (.bin .mul (.bin .add (.lit 1) (.bin .add (.bin .rem (.var 4) (.lit 1000)) (.lit 1000))) (.lit 112)) (.lit (-60))) (.bin .mul (.bin .mul (.bin .add (.lit 1) (.bin .add (.bin .rem (.var 4) (.lit 1000)) (.lit 1000))) (.lit (-60))) (.lit 112))) (-1) (.dead 58) (.split (.bin .sub (.bin .mul (.bin .mul (.bin .add (.lit 1) (.bin .add (.bin .rem (.var 4) (.lit 1000)) (.lit 1000))) (.lit 112)) (.lit (-60))) (.bin .mul (.bin .mul (.bin .add (.lit 1) (.bin .add (.bin .rem (.var 4) (.lit 1000)) (.lit 1000))) (.lit (-60))) (.lit 112))) 0 (.split (.bin .sub (.bin .add (.bin .mul (.bin .mul (.bin .add (.lit 1) (.bin .add (.bin .rem (.var 4) (.lit 1000)) (.lit 1000))) (.lit (-60))) (.lit (-60))) (.bin .mul (.bin .mul (.bin .add (.lit 1) (.bin .add (.bin .rem (.var 4) (.lit 1000)) (.lit 1000))) (.lit 112)) (.lit 112))) (.bin .mul (.bin .add (.lit 1) (.bin .add (.bin .rem (.var 4) (.lit 1000)) (.lit 1000))) (.lit 16144))) (-1) (.dead 59) (.split (.bin .sub (.bin .add (.bin .mul (.bin .mul (.bin .add (.lit 1) (.bin .add (.bin .rem (.var 4) (.lit 1000)) (.lit 1000))) (.lit (-60))) (.lit (-60))) (.bin .mul (.bin .mul (.bin .add (.lit 1) (.bin .add (.bin .rem (.var 4) (.lit 1000)) (.lit 1000))) (.lit 112)) (.lit 112))) (.bin .mul (.bin .add (.lit 1) (.bin .add (.bin .rem (.var 4) (.lit 1000)) (.lit 1000))) (.lit 16144))) 0 (.split (.bin .sub (.bin .add (.bin .mul (.bin .mul (.bin .add (.lit 1) (.bin .add (.bin .rem (.var 4) (.lit 1000)) (.lit 1000))) (.lit (-60))) (.lit (-60))) (.bin .mul (.bin .mul (.bin .add (.lit 1) (.bin .add (.bin .rem (.var 4) (.lit 1000)) (.lit 1000))) (.lit 112)) (.lit 112))) (.bin .mul (.lit 16020) (.bin .add (.lit 1) (.bin .add (.bin .rem (.var 4) (.lit 1000)) (.lit 1000))))) (-1) (.dead 60) (.split (.bin .sub (.bin .mul (.lit 16277) (.bin .add (.lit 1) (.bin .add (.bin .rem (.var 4) (.lit 1000)) (.lit 1000)))) (.bin .add (.bin .mul (.bin .mul (.bin .add (.lit 1) (.bin .add (.bin .rem (.var 4) (.lit 1000)) (.lit 1000))) (.lit (-60))) (.lit (-60))) (.bin .mul (.bin .mul (.bin .add (.lit 1) (.bin .add (.bin .rem (.var 4) (.lit 1000)) (.lit 1000))) (.lit 112)) (.lit 112)))) (-1) (.dead 61) .leaf)) (.dead 62))) (.dead 63))) (.split (.bin .sub (.bin .mul (.bin .mul (.bin .add (.lit 1) (.bin .rem (.var 4) (.lit 1000))) (.lit 112)) (.lit (-60))) (.bin .mul (.bin .mul (.bin .add (.lit 1) (.bin .rem (.var 4) (.lit 1000))) (.lit (-60))) (.lit 112))) (-1) (.dead 64) (.split (.bin .sub (.bin .mul (.bin .mul (.bin .add (.lit 1) (.bin .rem (.var 4) (.lit 1000))) (.lit 112)) (.lit (-60))) (.bin .mul (.bin .mul (.bin .add (.lit 1) (.bin .rem (.var 4) (.lit 1000))) (.lit (-60))) (.lit 112))) 0 (.split (.bin .sub (.bin .add (.bin .mul (.bin .mul (.bin .add (.lit 1) (.bin .rem (.var 4) (.lit 1000))) (.lit (-60))) (.lit (-60))) (.bin .mul (.bin .mul (.bin .add (.lit 1) (.bin .rem (.var 4) (.lit 1000))) (.lit 112)) (.lit 112))) (.bin .mul (.bin .add (.lit 1) (.bin .rem (.var 4) (.lit 1000))) (.lit 16144))) (-1) (.dead 65) (.split (.bin .sub (.bin .add (.bin .mul (.bin .mul (.bin .add (.lit 1) (.bin .rem (.var 4) (.lit 1000))) (.lit (-60))) (.lit (-60))) (.bin .mul (.bin .mul (.bin .add (.lit 1) (.bin .rem (.var 4) (.lit 1000))) (.lit 112)) (.lit 112))) (.bin .mul (.bin .add (.lit 1) (.bin .rem (.var 4) (.lit 1000))) (.lit 16144))) 0 (.split (.bin .sub (.bin .add (.bin .mul (.bin .mul (.bin .add (.lit 1) (.bin .rem (.var 4) (.lit 1000))) (.lit (-60))) (.lit (-60))) (.bin .mul (.bin .mul (.bin .add (.lit 1) (.bin .rem (.var 4) (.lit 1000))) (.lit 112)) (.lit 112))) (.bin .mul (.lit 16020) (.bin .add (.lit 1) (.bin .rem (.var 4) (.lit 1000))))) (-1) (.dead 66) (.split (.bin .sub (.bin .mul (.lit 16277) (.bin .add (.lit 1) (.bin .rem (.var 4) (.lit 1000)))) (.bin .add (.bin .mul (.bin .mul (.bin .add (.lit 1) (.bin .rem (.var 4) (.lit 1000))) (.lit (-60))) (.lit (-60))) (.bin .mul (.bin .mul (.bin .add (.lit 1) (.bin .rem (.var 4) (.lit 1000))) (.lit 112)) (.lit 112)))) (-1) (.dead 67) .leaf)) (.dead 68))) (.dead 69))))) (.split (.bin .fdiv (.var 0) (.lit 67108864)) 22 (.split (.bin .rem (.var 4) (.lit 1000)) (-1) (.split (.bin .sub (.bin .mul (.bin .mul (.bin .add (.lit 1) (.bin .add (.bin .rem (.var 4) (.lit 1000)) (.lit 1000))) (.lit 106)) (.lit (-71))) (.bin .mul (.bin .mul (.bin .add (.lit 1) (.bin .add (.bin .rem (.var 4) (.lit 1000)) (.lit 1000))) (.lit (-71))) (.lit 106))) (-1) (.dead 70) (.split (.bin .sub (.bin .mul (.bin .mul (.bin .add (.lit 1) (.bin .add (.bin .rem (.var 4) (.lit 1000)) (.lit 1000))) (.lit 106)) (.lit (-71))) (.bin .mul (.bin .mul (.bin .add (.lit 1) (.bin .add (.bin .rem (.var 4) (.lit 1000)) (.lit 1000))) (.lit (-71))) (.lit 106))) 0 (.split (.bin .sub (.bin .add (.bin .mul (.bin .mul (.bin .add (.lit 1) (.bin .add (.bin .rem (.var 4) (.lit 1000)) (.lit 1000))) (.lit (-71))) (.lit (-71))) (.bin .mul (.bin .mul (.bin .add (.lit 1) (.bin .add (.bin .rem (.var 4) (.lit 1000)) (.lit 1000))) (.lit 106)) (.lit 106))) (.bin .mul (.bin .add (.lit 1) (.bin .add (.bin .rem (.var 4) (.lit 1000)) (.lit 1000))) (.lit 16277))) (-1) (.dead 71) (.split (.bin .sub (.bin .add (.bin .mul (.bin .mul (.bin .add (.lit 1) (.bin .add (.bin .rem (.var 4) (.lit 1000)) (.lit 1000))) (.lit (-71))) (.lit (-71))) (.bin .mul (.bin .mul (.bin .add (.lit 1) (.bin .add (.bin .rem (.var 4) (.lit 1000)) (.lit 1000))) (.lit 106)) (.lit 106))) (.bin .mul (.bin .add (.lit 1) (.bin .add (.bin .rem (.var 4) (.lit 1000)) (.lit 1000))) (.lit 16277))) 0 (.split (.bin .sub (.bin .add (.bin .mul (.bin .mul (.bin .add (.lit 1) (.bin .add (.bin .rem (.var 4) (.lit 1000)) (.lit 1000))) (.lit (-71))) (.lit (-71))) (.bin .mul (.bin .mul (.bin .add (.lit 1) (.bin .add (.bin .rem (.var 4) (.lit 1000)) (.lit 1000))) (.lit 106)) (.lit 106))) (.bin .mul (.lit 16020) (.bin .add (.lit 1) (.bin .add (.bin .rem (.var 4) (.lit 1000)) (.lit 1000))))) (-1) (.dead 72) (.split (.bin .sub (.bin .mul (.lit 16277) (.bin .add (.lit 1) (.bin .add (.bin .rem (.var 4) (.lit 1000)) (.lit 1000)))) (.bin .add (.bin .mul (.bin .mul (.bin .add (.lit 1) (.bin .add (.bin .rem (.var 4) (.lit 1000)) (.lit 1000))) (.lit (-71))) (.lit (-71))) (.bin .mul (.bin .mul (.bin .add (.lit 1) (.bin .add (.bin .rem (.var 4) (.lit 1000)) (.lit 1000))) (.lit 106)) (.lit 106)))) (-1) (.dead 73) .leaf)) (.dead 74))) (.dead 75))) (.split (.bin .sub (.bin .mul (.bin .mul (.bin .add (.lit 1) (.bin .rem (.var 4) (.lit 1000))) (.lit 106)) (.lit (-71))) (.bin .mul (.bin .mul (.bin .add (.lit 1) (.bin .rem (.var 4) (.lit 1000))) (.lit (-71))) (.lit 106))) (-1) (.dead 76) (.split (.bin .sub (.bin .mul (.bin .mul (.bin .add (.lit 1) (.bin .rem (.var 4) (.lit 1000))) (.lit 106)) (.lit (-71))) (.bin .mul (.bin .mul (.bin .add (.lit 1) (.bin .rem (.var 4) (.lit 1000))) (.lit (-71))) (.lit 106))) 0 (.split (.bin .sub (.bin .add (.bin .mul (.bin .mul (.bin .add (.lit 1) (.bin .rem (.var 4) (.lit 1000))) (.lit (-71))) (.lit (-71))) (.bin .mul (.bin .mul (.bin .add (.lit 1) (.bin .rem (.var 4) (.lit 1000))) (.lit 106)) (.lit 106))) (.bin .mul (.bin .add (.lit 1) (.bin .rem (.var 4) (.lit 1000))) (.lit 16277))) (-1) (.dead 77) (.split (.bin .sub (.bin .add (.bin .mul (.bin .mul (.bin .add (.lit 1) (.bin .rem (.var 4) (.lit 1000))) (.lit (-71))) (.lit (-71))) (.bin .mul (.bin .mul (.bin .add (.lit 1) (.bin .rem (.var 4) (.lit 1000))) (.lit 106)) (.lit 106))) (.bin .mul (.bin .add (.lit 1) (.bin .rem (.var 4) (.lit 1000))) (.lit 16277))) 0 (.split (.bin .sub (.bin .add (.bin .mul (.bin .mul (.bin .add (.lit 1) (.bin .rem (.var 4) (.lit 1000))) (.lit (-71))) (.lit (-71))) (.bin .mul (.bin .mul (.bin .add (.lit 1) (.bin .rem (.var 4) (.lit 1000))) (.lit 106)) (.lit 106))) (.bin .mul (.lit 16020) (.bin .add (.lit 1) (.bin .rem (.var 4) (.lit 1000))))) (-1) (.dead 78) (.split (.bin .sub (.bin .mul (.lit 16277) (.bin .add (.lit 1) (.bin .rem (.var 4) (.lit 1000)))) (.bin .add (.bin .mul (.bin .mul (.bin .add (.lit 1) (.bin .rem (.var 4) (.lit 1000))) (.lit (-71))) (.lit (-71))) (.bin .mul (.bin .mul (.bin .add (.lit 1) (.bin .rem (.var 4) (.lit 1000))) (.lit 106)) (.lit 106)))) (-1) (.dead 79) .leaf)) (.dead 80))) (.dead 81)))) (.split (.bin .rem (.var 4) (.lit 1000)) (-1) (.split (.bin .sub (.bin .mul (.bin .mul (.bin .add (.lit 1) (.bin .add (.bin .rem (.var 4) (.lit 1000)) (.lit 1000))) (.lit 98)) (.lit (-81))) (.bin .mul (.bin .mul (.bin .add (.lit 1) (.bin .add (.bin .rem (.var 4) (.lit 1000)) (.lit 1000))) (.lit (-81))) (.lit 98))) (-1) (.dead 82) (.split (.bin .sub (.bin .mul (.bin .mul (.bin .add (.lit 1) (.bin .add (.bin .rem (.var 4) (.lit 1000)) (.lit 1000))) (.lit 98)) (.lit (-81))) (.bin .mul (.bin .mul (.bin .add (.lit 1) (.bin .add (.bin .rem (.var 4) (.lit 1000)) (.lit 1000))) (.lit (-81))) (.lit 98))) 0 (.split (.bin .sub (.bin .add (.bin .mul (.bin .mul (.bin .add (.lit 1) (.bin .add (.bin .rem (.var 4) (.lit 1000)) (.lit 1000))) (.lit (-81))) (.lit (-81))) (.bin .mul (.bin .mul (.bin .add (.lit 1) (.bin .add (.bin .rem (.var 4) (.lit 1000)) (.lit 1000))) (.lit 98)) (.lit 98))) (.bin .mul (.bin .add (.lit 1) (.bin .add (.bin .rem (.var 4) (.lit 1000)) (.lit 1000))) (.lit 16165))) (-1) (.dead 83) (.split (.bin .sub (.bin .add (.bin .mul (.bin .mul (.bin .add (.lit 1) (.bin .add (.bin .rem (.var 4) (.lit 1000)) (.lit 1000))) (.lit (-81))) (.lit (-81))) (.bin .mul (.bin .mul (.bin .add (.lit 1) (.bin .add (.bin .rem (.var 4) (.lit 1000)) (.lit 1000))) (.lit 98)) (.lit 98))) (.bin .mul (.bin .add (.lit 1) (.bin .add (.bin .rem (.var 4) (.lit 1000)) (.lit 1000))) (.lit 16165))) 0 (.split (.bin .sub (.bin .add (.bin .mul (.bin .mul (.bin .add (.lit 1) (.bin .add (.bin .rem (.var 4) (.lit 1000)) (.lit 1000))) (.lit (-81))) (.lit (-81))) (.bin .mul (.bin .mul (.bin .add (.lit 1) (.bin .add (.bin .rem (.var 4) (.lit 1000)) (.lit 1000))) (.lit 98)) (.lit 98))) (.bin .mul (.lit 16020) (.bin .add (.lit 1) (.bin .add (.bin .rem (.var 4) (.lit 1000)) (.lit 1000))))) (-1) (.dead 84) (.split (.bin .sub (.bin .mul (.lit 16277) (.bin .add (.lit 1) (.bin .add (.bin .rem (.var 4) (.lit 1000)) (.lit 1000)))) (.bin .add (.bin .mul (.bin .mul (.bin .add (.lit 1) (.bin .add (.bin .rem (.var 4) (.lit 1000)) (.lit 1000))) (.lit (-81))) (.lit (-81))) (.bin .mul (.bin .mul (.bin .add (.lit 1) (.bin .add (.bin .rem (.var 4) (.lit 1000)) (.lit 1000))) (.lit 98)) (.lit 98)))) (-1) (.dead 85) .leaf)) (.dead 86))) (.dead 87))) (.split (.bin .sub (.bin .mul (.bin .mul (.bin .add (.lit 1) (.bin .rem (.var 4) (.lit 1000))) (.lit 98)) (.lit (-81))) (.bin .mul (.bin .mul (.bin .add (.lit 1) (.bin .rem (.var 4) (.lit 1000))) (.lit (-81))) (.lit 98))) (-1) (.dead 88) (.split (.bin .sub (.bin .mul (.bin .mul (.bin .add (.lit 1) (.bin .rem (.var 4) (.lit 1000))) (.lit 98)) (.lit (-81))) (.bin .mul (.bin .mul (.bin .add (.lit 1) (.bin .rem (.var 4) (.lit 1000))) (.lit (-81))) (.lit 98))) 0 (.split (.bin .sub (.bin .add (.bin .mul (.bin .mul (.bin .add (.lit 1) (.bin .rem (.var 4) (.lit 1000))) (.lit (-81))) (.lit (-81))) (.bin .mul (.bin .mul (.bin .add (.lit 1) (.bin .rem (.var 4) (.lit 1000))) (.lit 98)) (.lit 98))) (.bin .mul (.bin .add (.lit 1) (.bin .rem (.var 4) (.lit 1000))) (.lit 16165))) (-1) (.dead 89) (.split (.bin .sub (.bin .add (.bin .mul (.bin .mul (.bin .add (.lit 1) (.bin .rem (.var 4) (.lit 1000))) (.lit (-81))) (.lit (-81))) (.bin .mul (.bin .mul (.bin .add (.lit 1) (.bin .rem (.var 4) (.lit 1000))) (.lit 98)) (.lit 98))) (.bin .mul (.bin .add (.lit 1) (.bin .rem (.var 4) (.lit 1000))) (.lit 16165))) 0 (.split (.bin .sub (.bin .add (.bin .mul (.bin .mul (.bin .add (.lit 1) (.bin .rem (.var 4) (.lit 1000))) (.lit (-81))) (.lit (-81))) (.bin .mul (.bin .mul (.bin .add (.lit 1) (.bin .rem (.var 4) (.lit 1000))) (.lit 98)) (.lit 98))) (.bin .mul (.lit 16020) (.bin .add (.lit 1) (.bin .rem (.var 4) (.lit 1000))))) (-1) (.dead 90) (.split (.bin .sub (.bin .mul (.lit 16277) (.bin .add (.lit 1) (.bin .rem (.var 4) (.lit 1000)))) (.bin .add (.bin .mul (.bin .mul (.bin .add (.lit 1) (.bin .rem (.var 4) (.lit 1000))) (.lit (-81))) (.lit (-81))) (.bin .mul (.bin .mul (.bin .add (.lit 1) (.bin .rem (.var 4) (.lit 1000))) (.lit 98)) (.lit 98)))) (-1) (.dead 91) .leaf)) (.dead 92))) (.dead 93))))))) (.split (.bin .fdiv (.var 0) (.lit 67108864)) 27 (.split (.bin .fdiv (.var 0) (.lit 67108864)) 25 (.split (.bin .fdiv (.var 0) (.lit 67108864)) 24 (.split (.bin .rem (.var 4) (.lit 1000)) (-1) (.split (.bin .sub (.bin .mul (.bin .mul (.bin .add (.lit 1) (.bin .add (.bin .rem (.var 4) (.lit 1000)) (.lit 1000))) (.lit 90)) (.lit (-90))) (.bin .mul (.bin .mul (.bin .add (.lit 1) (.bin .add (.bin .rem (.var 4) (.lit 1000)) (.lit 1000))) (.lit (-90))) (.lit 90))) (-1) (.dead 94) (.split (.bin .sub (.bin .mul (.bin .mul (.bin .add (.lit 1) (.bin .add (.bin .rem (.var 4) (.lit 1000)) (.lit 1000))) (.lit 90)) (.lit (-90))) (.bin .mul (.bin .mul (.bin .add (.lit 1) (.bin .add (.bin .rem (.var 4) (.lit 1000)) (.lit 1000))) (.lit (-90))) (.lit 90))) 0 (.split (.bin .sub (.bin .add (.bin .mul (.bin .mul (.bin .add (.lit 1) (.bin .add (.bin .rem (.var 4) (.lit 1000)) (.lit 1000))) (.lit (-90))) (.lit (-90))) (.bin .mul (.bin .mul (.bin .add (.lit 1) (.bin .add (.bin .rem (.var 4) (.lit 1000)) (.lit 1000))) (.lit 90)) (.lit 90))) (.bin .mul (.bin .add (.lit 1) (.bin .add (.bin .rem (.var 4) (.lit 1000)) (.lit 1000))) (.lit 16200))) (-1) (.dead 95) (.split (.bin .sub (.bin .add (.bin .mul (.bin .mul (.bin .add (.lit 1) (.bin .add (.bin .rem (.var 4) (.lit 1000)) (.lit 1000))) (.lit (-90))) (.lit (-90))) (.bin .mul (.bin .mul (.bin .add (.lit 1) (.bin .add (.bin .rem (.var 4) (.lit 1000)) (.lit 1000))) (.lit 90)) (.lit 90))) (.bin .mul (.bin .add (.lit 1) (.bin .add (.bin .rem (.var 4) (.lit 1000)) (.lit 1000))) (.lit 16200))) 0 (.split (.bin .sub (.bin .add (.bin .mul (.bin .mul (.bin .add (.lit 1) (.bin .add (.bin .rem (.var 4) (.lit 1000)) (.lit 1000))) (.lit (-90))) (.lit (-90))) (.bin .mul (.bin .mul (.bin .add (.lit 1) (.bin .add (.bin .rem (.var 4) (.lit 1000)) (.lit 1000))) (.lit 90)) (.lit 90))) (.bin .mul (.lit 16020) (.bin .add (.lit 1) (.bin .add (.bin .rem (.var 4) (.lit 1000)) (.lit 1000))))) (-1) (.dead 96) (.split (.bin .sub (.bin .mul (.lit 16277) (.bin .add (.lit 1) (.bin .add (.bin .rem (.var 4) (.lit 1000)) (.lit 1000)))) (.bin .add (.bin .mul (.bin .mul (.bin .add (.lit 1) (.bin .add (.bin .rem (.var 4) (.lit 1000)) (.lit 1000))) (.lit (-90))) (.lit (-90))) (.bin .mul (.bin .mul (.bin .add (.lit 1) (.bin .add (.bin .rem (.var 4) (.lit 1000)) (.lit 1000))) (.lit 90)) (.lit 90)))) (-1) (.dead 97) .leaf)) (.dead 98))) (.dead 99))) (.split (.bin .sub (.bin .mul (.bin .mul (.bin .add (.lit 1) (.bin .rem (.var 4) (.lit 1000))) (.lit 90)) (.lit (-90))) (.bin .mul (.bin .mul (.bin .add (.lit 1) (.bin .rem (.var 4) (.lit 1000))) (.lit (-90))) (.lit 90))) (-1) (.dead 100) (.split (.bin .sub (.bin .mul (.bin .mul (.bin .add (.lit 1) (.bin .rem (.var 4) (.lit 1000))) (.lit 90)) (.lit (-90))) (.bin .mul (.bin .mul (.bin .add (.lit 1) (.bin .rem (.var 4) (.lit 1000))) (.lit (-90))) (.lit 90))) 0 (.split (.bin .sub (.bin .add (.bin .mul (.bin .mul (.bin .add (.lit 1) (.bin .rem (.var 4) (.lit 1000))) (.lit (-90))) (.lit (-90))) (.bin .mul (.bin .mul (.bin .add (.lit 1) (.bin .rem (.var 4) (.lit 1000))) (.lit 90)) (.lit 90))) (.bin .mul (.bin .add (.lit 1) (.bin .rem (.var 4) (.lit 1000))) (.lit 16200))) (-1) (.dead 101) (.split (.bin .sub (.bin .add (.bin .mul (.bin .mul (.bin .add (.lit 1) (.bin .rem (.var 4) (.lit 1000))) (.lit (-90))) (.lit (-90))) (.bin .mul (.bin .mul (.bin .add (.lit 1) (.bin .rem (.var 4) (.lit 1000))) (.lit 90)) (.lit 90))) (.bin .mul (.bin .add (.lit 1) (.bin .rem (.var 4) (.lit 1000))) (.lit 16200))) 0 (.split (.bin .sub (.bin .add (.bin .mul (.bin .mul (.bin .add (.lit 1) (.bin .rem (.var 4) (.lit 1000))) (.lit (-90))) (.lit (-90))) (.bin .mul (.bin .mul (.bin .add (.lit 1) (.bin .rem (.var 4) (.lit 1000))) (.lit 90)) (.lit 90))) (.bin .mul (.lit 16020) (.bin .add (.lit 1) (.bin .rem (.var 4) (.lit 1000))))) (-1) (.dead 102) (.split (.bin .sub (.bin .mul (.lit 16277) (.bin .add (.lit 1) (.bin .rem (.var 4) (.lit 1000)))) (.bin .add (.bin .mul (.bin .mul (.bin .add (.lit 1) (.bin .rem (.var 4) (.lit 1000))) (.lit (-90))) (.lit (-90))) (.bin .mul (.bin .mul (.bin .add (.lit 1) (.bin .rem (.var 4) (.lit 1000))) (.lit 90)) (.lit 90)))) (-1) (.dead 103) .leaf)) (.dead 104))) (.dead 105)))) (.split (.bin .rem (.var 4) (.lit 1000)) (-1) (.split (.bin .sub (.bin .mul (.bin .mul (.bin .add (.lit 1) (.bin .add (.bin .rem (.var 4) (.lit 1000)) (.lit 1000))) (.lit 81)) (.lit (-98))) (.bin .mul (.bin .mul (.bin .add (.lit 1) (.bin .add (.bin .rem (.var 4) (.lit 1000)) (.lit 1000))) (.lit (-98))) (.lit 81))) (-1) (.dead 106) (.split (.bin .sub (.bin .mul (.bin .mul (.bin .add (.lit 1) (.bin .add (.bin .rem (.var 4) (.lit 1000)) (.lit 1000))) (.lit 81)) (.lit (-98))) (.bin .mul (.bin .mul (.bin .add (.lit 1) (.bin .add (.bin .rem (.var 4) (.lit 1000)) (.lit 1000))) (.lit (-98))) (.lit 81))) 0 (.split (.bin .sub (.bin .add (.bin .mul (.bin .mul (.bin .add (.lit 1) (.bin .add (.bin .rem (.var 4) (.lit 1000)) (.lit 1000))) (.lit (-98))) (.lit (-98))) (.bin .mul (.bin .mul (.bin .add (.lit 1) (.bin .add (.bin .rem (.var 4) (.lit 1000)) (.lit 1000))) (.lit 81)) (.lit 81))) (.bin .mul (.bin .add (.lit 1) (.bin .add (.bin .rem (.var 4) (.lit 1000)) (.lit 1000))) (.lit 16165))) (-1) (.dead 107) (.split (.bin .sub (.bin .add (.bin .mul (.bin .mul (.bin .add (.lit 1) (.bin .add (.bin .rem (.var 4) (.lit 1000)) (.lit 1000))) (.lit (-98))) (.lit (-98))) (.bin .mul (.bin .mul (.bin .add (.lit 1) (.bin .add (.bin .rem (.var 4) (.lit 1000)) (.lit 1000))) (.lit 81)) (.lit 81))) (.bin .mul (.bin .add (.lit 1) (.bin .add (.bin .rem (.var 4) (.lit 1000)) (.lit 1000))) (.lit 16165))) 0 (.split (.bin .sub (.bin .add (.bin .mul (.bin .mul (.bin .add (.lit 1) (.bin .add (.bin .rem (.var 4) (.lit 1000)) (.lit 1000))) (.lit (-98))) (.lit (-98))) (.bin .mul (.bin .mul (.bin .add (.lit 1) (.bin .add (.bin .rem (.var 4) (.lit 1000)) (.lit 1000))) (.lit 81)) (.lit 81))) (.bin .mul (.lit 16020) (.bin .add (.lit 1) (.bin .add (.bin .rem (.var 4) (.lit 1000)) (.lit 1000))))) (-1) (.dead 108) (.split (.bin .sub (.bin .mul (.lit 16277) (.bin .add (.lit 1) (.bin .add (.bin .rem (.var 4) (.lit 1000)) (.lit 1000)))) (.bin .add (.bin .mul (.bin .mul (.bin .add (.lit 1) (.bin .add (.bin .rem (.var 4) (.lit 1000)) (.lit 1000))) (.lit (-98))) (.lit (-98))) (.bin .mul (.bin .mul (.bin .add (.lit 1) (.bin .add (.bin .rem (.var 4) (.lit 1000)) (.lit 1000))) (.lit 81)) (.lit 81)))) (-1) (.dead 109) .leaf)) (.dead 110))) (.dead 111))) (.split (.bin .sub (.bin .mul (.bin .mul (.bin .add (.lit 1) (.bin .rem (.var 4) (.lit 1000))) (.lit 81)) (.lit (-98))) (.bin .mul (.bin .mul (.bin .add (.lit 1) (.bin .rem (.var 4) (.lit 1000))) (.lit (-98))) (.lit 81))) (-1) (.dead 112) (.split (.bin .sub (.bin .mul (.bin .mul (.bin .add (.lit 1) (.bin .rem (.var 4) (.lit 1000))) (.lit 81)) (.lit (-98))) (.bin .mul (.bin .mul (.bin .add (.lit 1) (.bin .rem (.var 4) (.lit 1000))) (.lit (-98))) (.lit 81))) 0 (.split (.bin .sub (.bin .add (.bin .mul (.bin .mul (.bin .add (.lit 1) (.bin .rem (.var 4) (.lit 1000))) (.lit (-98))) (.lit (-98))) (.bin .mul (.bin .mul (.bin .add (.lit 1) (.bin .rem (.var 4) (.lit 1000))) (.lit 81)) (.lit 81))) (.bin .mul (.bin .add (.lit 1) (.bin .rem (.var 4) (.lit 1000))) (.lit 16165))) (-1) (.dead 113) (.split (.bin .sub (.bin .add (.bin .mul (.bin .mul (.bin .add (.lit 1) (.bin .rem (.var 4) (.lit 1000))) (.lit (-98))) (.lit (-98))) (.bin .mul (.bin .mul (.bin .add (.lit 1) (.bin .rem (.var 4) (.lit 1000))) (.lit 81)) (.lit 81))) (.bin .mul (.bin .add (.lit 1) (.bin .rem (.var 4) (.lit 1000))) (.lit 16165))) 0 (.split (.bin .sub (.bin .add (.bin .mul (.bin .mul (.bin .add (.lit 1) (.bin .rem (.var 4) (.lit 1000))) (.lit (-98))) (.lit (-98))) (.bin .mul (.bin .mul (.bin .add (.lit 1) (.bin .rem (.var 4) (.lit 1000))) (.lit 81)) (.lit 81))) (.bin .mul (.lit 16020) (.bin .add (.lit 1) (.bin .rem (.var 4) (.lit 1000))))) (-1) (.dead 114) (.split (.bin .sub (.bin .mul (.lit 16277) (.bin .add (.lit 1) (.bin .rem (.var 4) (.lit 1000)))) (.bin .add (.bin .mul (.bin .mul (.bin .add (.lit 1) (.bin .rem (.var 4) (.lit 1000))) (.lit (-98))) (.lit (-98))) (.bin .mul (.bin .mul (.bin .add (.lit 1) (.bin .rem (.var 4) (.lit 1000))) (.lit 81)) (.lit 81)))) (-1) (.dead 115) .leaf)) (.dead 116))) (.dead 117))))) (.split (.bin .fdiv (.var 0) (.lit 67108864)) 26 (.split (.bin .rem (.var 4) (.lit 1000)) (-1) (.split (.bin .sub (.bin .mul (.bin .mul (.bin .add (.lit 1) (.bin .add (.bin .rem (.var 4) (.lit 1000)) (.lit 1000))) (.lit 71)) (.lit (-106))) (.bin .mul (.bin .mul (.bin .add (.lit 1) (.bin .add (.bin .rem (.var 4) (.lit 1000)) (.lit 1000))) (.lit (-106))) (.lit 71))) (-1) (.dead 118) (.split (.bin .sub (.bin .mul (.bin .mul (.bin .add (.lit 1) (.bin .add (.bin .rem (.var 4) (.lit 1000)) (.lit 1000))) (.lit 71)) (.lit (-106))) (.bin .mul (.bin .mul (.bin .add (.lit 1) (.bin .add (.bin .rem (.var 4) (.lit 1000)) (.lit 1000))) (.lit (-106))) (.lit 71))) 0 (.split (.bin .sub (.bin .add (.bin .mul (.bin .mul (.bin .add (.lit 1) (.bin .add (.bin .rem (.var 4) (.lit 1000)) (.lit 1000))) (.lit (-106))) (.lit (-106))) (.bin .mul (.bin .mul (.bin .add (.lit 1) (.bin .add (.bin .rem (.var 4) (.lit 1000)) (.lit 1000))) (.lit 71)) (.lit 71))) (.bin .mul (.bin .add (.lit 1) (.bin .add (.bin .rem (.var 4) (.lit 1000)) (.lit 1000))) (.lit 16277))) (-1) (.dead 119) (.split (.bin .sub (.bin .add (.bin .mul (.bin .mul (.bin .add (.lit 1) (.bin .add (.bin .rem (.var 4) (.lit 1000)) (.lit 1000))) (.lit (-106))) (.lit (-106))) (.bin .mul (.bin .mul (.bin .add (.lit 1) (.bin .add (.bin .rem (.var 4) (.lit 1000)) (.lit 1000))) (.lit 71)) (.lit 71))) (.bin .mul (.bin .add (.lit 1) (.bin .add (.bin .rem (.var 4) (.lit 1000)) (.lit 1000))) (.lit 16277))) 0 (.split (.bin .sub (.bin .add (.bin .mul (.bin .mul (.bin .add (.lit 1) (.bin .add (.bin .rem (.var 4) (.lit 1000)) (.lit 1000))) (.lit (-106))) (.lit (-106))) (.bin .mul (.bin .mul (.bin .add (.lit 1) (.bin .add (.bin .rem (.var 4) (.lit 1000)) (.lit 1000))) (.lit 71)) (.lit 71))) (.bin .mul (.lit 16020) (.bin .add (.lit 1) (.bin .add (.bin .rem (.var 4) (.lit 1000)) (.lit 1000))))) (-1) (.dead 120) (.split (.bin .sub (.bin .mul (.lit 16277) (.bin .add (.lit 1) (.bin .add (.bin .rem (.var 4) (.lit 1000)) (.lit 1000)))) (.bin .add (.bin .mul (.bin .mul (.bin .add (.lit 1) (.bin .add (.bin .rem (.var 4) (.lit 1000)) (.lit 1000))) (.lit (-106))) (.lit (-106))) (.bin .mul (.bin .mul (.bin .add (.lit 1) (.bin .add (.bin .rem (.var 4) (.lit 1000)) (.lit 1000))) (.lit 71)) (.lit 71)))) (-1) (.dead 121) .leaf)) (.dead 122))) (.dead 123))) (.split (.bin .sub (.bin .mul (.bin .mul (.bin .add (.lit 1) (.bin .rem (.var 4) (.lit 1000))) (.lit 71)) (.lit (-106))) (.bin .mul (.bin .mul (.bin .add (.lit 1) (.bin .rem (.var 4) (.lit 1000))) (.lit (-106))) (.lit 71))) (-1) (.dead 124) (.split (.bin .sub (.bin .mul (.bin .mul (.bin .add (.lit 1) (.bin .rem (.var 4) (.lit 1000))) (.lit 71)) (.lit (-106))) (.bin .mul (.bin .mul (.bin .add (.lit 1) (.bin .rem (.var 4) (.lit 1000))) (.lit (-106))) (.lit 71))) 0 (.split (.bin .sub (.bin .add (.bin .mul (.bin .mul (.bin .add (.lit 1) (.bin .rem (.var 4) (.lit 1000))) (.lit (-106))) (.lit (-106))) (.bin .mul (.bin .mul (.bin .add (.lit 1) (.bin .rem (.var 4) (.lit 1000))) (.lit 71)) (.lit 71))) (.bin .mul (.bin .add (.lit 1) (.bin .rem (.var 4) (.lit 1000))) (.lit 16277))) (-1) (.dead 125) (.split (.bin .sub (.bin .add (.bin .mul (.bin .mul (.bin .add (.lit 1) (.bin .rem (.var 4) (.lit 1000))) (.lit (-106))) (.lit (-106))) (.bin .mul (.bin .mul (.bin .add (.lit 1) (.bin .rem (.var 4) (.lit 1000))) (.lit 71)) (.lit 71))) (.bin .mul (.bin .add (.lit 1) (.bin .rem (.var 4) (.lit 1000))) (.lit 16277))) 0 (.split (.bin .sub (.bin .add (.bin .mul (.bin .mul (.bin .add (.lit 1) (.bin .rem (.var 4) (.lit 1000))) (.lit (-106))) (.lit (-106))) (.bin .mul (.bin .mul (.bin .add (.lit 1) (.bin .rem (.var 4) (.lit 1000))) (.lit 71)) (.lit 71))) (.bin .mul (.lit 16020) (.bin .add (.lit 1) (.bin .rem (.var 4) (.lit 1000))))) (-1) (.dead 126) (.split (.bin .sub (.bin .mul (.lit 16277) (.bin .add (.lit 1) (.bin .rem (.var 4) (.lit 1000)))) (.bin .add (.bin .mul (.bin .mul (.bin .add (.lit 1) (.bin .rem (.var 4) (.lit 1000))) (.lit (-106))) (.lit (-106))) (.bin .mul (.bin .mul (.bin .add (.lit 1) (.bin .rem (.var 4) (.lit 1000))) (.lit 71)) (.lit 71)))) (-1) (.dead 127) .leaf)) (.dead 128))) (.dead 129)))) (.split (.bin .rem (.var 4) (.lit 1000)) (-1) (.split (.bin .sub (.bin .mul (.bin .mul (.bin .add (.lit 1) (.bin .add (.bin .rem (.var 4) (.lit 1000)) (.lit 1000))) (.lit 60)) (.lit (-112))) (.bin .mul (.bin .mul (.bin .add (.lit 1) (.bin .add (.bin .rem (.var 4) (.lit 1000)) (.lit 1000))) (.lit (-112))) (.lit 60))) (-1) (.dead 130) (.split (.bin .sub (.bin .mul (.bin .mul (.bin .add (.lit 1) (.bin .add (.bin .rem (.var 4) (.lit 1000)) (.lit 1000))) (.lit 60)) (.lit (-112))) (.bin .mul (.bin .mul (.bin .add (.lit 1) (.bin .add (.bin .rem (.var 4) (.lit 1000)) (.lit 1000))) (.lit (-112))) (.lit 60))) 0 (.split (.bin .sub (.bin .add (.bin .mul (.bin .mul (.bin .add (.lit 1) (.bin .add (.bin .rem (.var 4) (.lit 1000)) (.lit 1000))) (.lit (-112))) (.lit (-112))) (.bin .mul (.bin .mul (.bin .add (.lit 1) (.bin .add (.bin .rem (.var 4) (.lit 1000)) (.lit 1000))) (.lit 60)) (.lit 60))) (.bin .mul (.bin .add (.lit 1) (.bin .add (.bin .rem (.var 4) (.lit 1000)) (.lit 1000))) (.lit 16144))) (-1) (.dead 131) (.split (.bin .sub (.bin .add (.bin .mul (.bin .mul (.bin .add (.lit 1) (.bin .add (.bin .rem (.var 4) (.lit 1000)) (.lit 1000))) (.lit (-112))) (.lit (-112))) (.bin .mul (.bin .mul (.bin .add (.lit 1) (.bin .add (.bin .rem (.var 4) (.lit 1000)) (.lit 1000))) (.lit 60)) (.lit 60))) (.bin .mul (.bin .add (.lit 1) (.bin .add (.bin .rem (.var 4) (.lit 1000)) (.lit 1000))) (.lit 16144))) 0 (.split (.bin .sub (.bin .add (.bin .mul (.bin .mul (.bin .add (.lit 1) (.bin .add (.bin .rem (.var 4) (.lit 1000)) (.lit 1000))) (.lit (-112))) (.lit (-112))) (.bin .mul (.bin .mul (.bin .add (.lit 1) (.bin .add (.bin .rem (.var 4) (.lit 1000)) (.lit 1000))) (.lit 60)) (.lit 60))) (.bin .mul (.lit 16020) (.bin .add (.lit 1) (.bin .add (.bin .rem (.var 4) (.lit 1000)) (.lit 1000))))) (-1) (.dead 132) (.split (.bin .sub (.bin .mul (.lit 16277) (.bin .add (.lit 1) (.bin .add (.bin .rem (.var 4) (.lit 1000)) (.lit 1000)))) (.bin .add (.bin .mul (.bin .mul (.bin .add (.lit 1) (.bin .add (.bin .rem (.var 4) (.lit 1000)) (.lit 1000))) (.lit (-112))) (.lit (-112))) (.bin .mul (.bin .mul (.bin .add (.lit 1) (.bin .add (.bin .rem (.var 4) (.lit 1000)) (.lit 1000))) (.lit 60)) (.lit 60)))) (-1) (.dead 133) .leaf)) (.dead 134))) (.dead 135))) (.split (.bin .sub (.bin .mul (.bin .mul (.bin .add (.lit 1) (.bin .rem (.var 4) (.lit 1000))) (.lit 60)) (.lit (-112))) (.bin .mul (.bin .mul (.bin .add (.lit 1) (.bin .rem (.var 4) (.lit 1000))) (.lit (-112))) (.lit 60))) (-1) (.dead 136) (.split (.bin .sub (.bin .mul (.bin .mul (.bin .add (.lit 1) (.bin .rem (.var 4) (.lit 1000))) (.lit 60)) (.lit (-112))) (.bin .mul (.bin .mul (.bin .add (.lit 1) (.bin .rem (.var 4) (.lit 1000))) (.lit (-112))) (.lit 60))) 0 (.split (.bin .sub (.bin .add (.bin .mul (.bin .mul (.bin .add (.lit 1) (.bin .rem (.var 4) (.lit 1000))) (.lit (-112))) (.lit (-112))) (.bin .mul (.bin .mul (.bin .add (.lit 1) (.bin .rem (.var 4) (.lit 1000))) (.lit 60)) (.lit 60))) (.bin .mul (.bin .add (.lit 1) (.bin .rem (.var 4) (.lit 1000))) (.lit 16144))) (-1) (.dead 137) (.split (.bin .sub (.bin .add (.bin .mul (.bin .mul (.bin .add (.lit 1) (.bin .rem (.var 4) (.lit 1000))) (.lit (-112))) (.lit (-112))) (.bin .mul (.bin .mul (.bin .add (.lit 1) (.bin .rem (.var 4) (.lit 1000))) (.lit 60)) (.lit 60))) (.bin .mul (.bin .add (.lit 1) (.bin .rem (.var 4) (.lit 1000))) (.lit 16144))) 0 (.split (.bin .sub (.bin .add (.bin .mul (.bin .mul (.bin .add (.lit 1) (.bin .rem (.var 4) (.lit 1000))) (.lit (-112))) (.lit (-112))) (.bin .mul (.bin .mul (.bin .add (.lit 1) (.bin .rem (.var 4) (.lit 1000))) (.lit 60)) (.lit 60))) (.bin .mul (.lit 16020) (.bin .add (.lit 1) (.bin .rem (.var 4) (.lit 1000))))) (-1) (.dead 138) (.split (.bin .sub (.bin .mul (.lit 16277) (.bin .add (.lit 1) (.bin .rem (.var 4) (.lit 1000)))) (.bin .add (.bin .mul (.bin .mul (.bin .add (.lit 1) (.bin .rem (.var 4) (.lit 1000))) (.lit (-112))) (.lit (-112))) (.bin .mul (.bin .mul (.bin .add (.lit 1) (.bin .rem (.var 4) (.lit 1000))) (.lit 60)) (.lit 60)))) (-1) (.dead 139) .leaf)) (.dead 140))) (.dead 141)))))) (.split (.bin .fdiv (.var 0) (.lit 67108864)) 29 (.split (.bin .fdiv (.var 0) (.lit 67108864)) 28 (.split (.bin .rem (.var 4) (.lit 1000)) (-1) (.split (.bin .sub (.bin .mul (.bin .mul (.bin .add (.lit 1) (.bin .add (.bin .rem (.var 4) (.lit 1000)) (.lit 1000))) (.lit 49)) (.lit (-117))) (.bin .mul (.bin .mul (.bin .add (.lit 1) (.bin .add (.bin .rem (.var 4) (.lit 1000)) (.lit 1000))) (.lit (-117))) (.lit 49))) (-1) (.dead 142) (.split (.bin .sub (.bin .mul (.bin .mul (.bin .add (.lit 1) (.bin .add (.bin .rem (.var 4) (.lit 1000)) (.lit 1000))) (.lit 49)) (.lit (-117))) (.bin .mul (.bin .mul (.bin .add (.lit 1) (.bin .add (.bin .rem (.var 4) (.lit 1000)) (.lit 1000))) (.lit (-117))) (.lit 49))) 0 (.split (.bin .sub (.bin .add (.bin .mul (.bin .mul (.bin .add (.lit 1) (.bin .add (.bin .rem (.var 4) (.lit 1000)) (.lit 1000))) (.lit (-117))) (.lit (-117))) (.bin .mul (.bin .mul (.bin .add (.lit 1) (.bin .add (.bin .rem (.var 4) (.lit 1000)) (.lit 1000))) (.lit 49)) (.lit 49))) (.bin .mul (.bin .add (.lit 1) (.bin .add (.bin .rem (.var 4) (.lit 1000)) (.lit 1000))) (.lit 16090))) (-1) (.dead 143) (.split (.bin .sub (.bin .add (.bin .mul (.bin .mul (.bin .add (.lit 1) (.bin .add (.bin .rem (.var 4) (.lit 1000)) (.lit 1000))) (.lit (-117))) (.lit (-117))) (.bin .mul (.bin .mul (.bin .add (.lit 1) (.bin .add (.bin .rem (.var 4) (.lit 1000)) (.lit 1000))) (.lit 49)) (.lit 49))) (.bin .mul (.bin .add (.lit 1) (.bin .add (.bin .rem (.var 4) (.lit 1000)) (.lit 1000))) (.lit 16090))) 0 (.split (.bin .sub (.bin .add (.bin .mul (.bin .mul (.bin .add (.lit 1) (.bin .add (.bin .rem (.var 4) (.lit 1000)) (.lit 1000))) (.lit (-117))) (.lit (-117))) (.bin .mul (.bin .mul (.bin .add (.lit 1) (.bin .add (.bin .rem (.var 4) (.lit 1000)) (.lit 1000))) (.lit 49)) (.lit 49))) (.bin .mul (.lit 16020) (.bin .add (.lit 1) (.bin .add (.bin .rem (.var 4) (.lit 1000)) (.lit 1000))))) (-1) (.dead 144) (.split (.bin .sub (.bin .mul (.lit 16277) (.bin .add (.lit 1) (.bin .add (.bin .rem (.var 4) (.lit 1000)) (.lit 1000)))) (.bin .add (.bin .mul (.bin .mul (.bin .add (.lit 1) (.bin .add (.bin .rem (.var 4) (.lit 1000)) (.lit 1000))) (.lit (-117))) (.lit (-117))) (.bin .mul (.bin .mul (.bin .add (.lit 1) (.bin .add (.bin .rem (.var 4) (.lit 1000)) (.lit 1000))) (.lit 49)) (.lit 49)))) (-1) (.dead 145) .leaf)) (.dead 146))) (.dead 147))) (.split (.bin .sub (.bin .mul (.bin .mul (.bin .add (.lit 1) (.bin .rem (.var 4) (.lit 1000))) (.lit 49)) (.lit (-117))) (.bin .mul (.bin .mul (.bin .add (.lit 1) (.bin .rem (.var 4) (.lit 1000))) (.lit (-117))) (.lit 49))) (-1) (.dead 148) (.split (.bin .sub (.bin .mul (.bin .mul (.bin .add (.lit 1) (.bin .rem (.var 4) (.lit 1000))) (.lit 49)) (.lit (-117))) (.bin .mul (.bin .mul (.bin .add (.lit 1) (.bin .rem (.var 4) (.lit 1000))) (.lit (-117))) (.lit 49))) 0 (.split (.bin .sub (.bin .add (.bin .mul (.bin .mul (.bin .add (.lit 1) (.bin .rem (.var 4) (.lit 1000))) (.lit (-117))) (.lit (-117))) (.bin .mul (.bin .mul (.bin .add (.lit 1) (.bin .rem (.var 4) (.lit 1000))) (.lit 49)) (.lit 49))) (.bin .mul (.bin .add (.lit 1) (.bin .rem (.var 4) (.lit 1000))) (.lit 16090))) (-1) (.dead 149) (.split (.bin .sub (.bin .add (.bin .mul (.bin .mul (.bin .add (.lit 1) (.bin .rem (.var 4) (.lit 1000))) (.lit (-117))) (.lit (-117))) (.bin .mul (.bin .mul (.bin .add (.lit 1) (.bin .rem (.var 4) (.lit 1000))) (.lit 49)) (.lit 49))) (.bin .mul (.bin .add (.lit 1) (.bin .rem (.var 4) (.lit 1000))) (.lit 16090))) 0 (.split (.bin .sub (.bin .add (.bin .mul (.bin .mul (.bin .add (.lit 1) (.bin .rem (.var 4) (.lit 1000))) (.lit (-117))) (.lit (-117))) (.bin .mul (.bin .mul (.bin .add (.lit 1) (.bin .rem (.var 4) (.lit 1000))) (.lit 49)) (.lit 49))) (.bin .mul (.lit 16020) (.bin .add (.lit 1) (.bin .rem (.var 4) (.lit 1000))))) (-1) (.dead 150) (.split (.bin .sub (.bin .mul (.lit 16277) (.bin .add (.lit 1) (.bin .rem (.var 4) (.lit 1000)))) (.bin .add (.bin .mul (.bin .mul (.bin .add (.lit 1) (.bin .rem (.var 4) (.lit 1000))) (.lit (-117))) (.lit (-117))) (.bin .mul (.bin .mul (.bin .add (.lit 1) (.bin .rem (.var 4) (.lit 1000))) (.lit 49)) (.lit 49)))) (-1) (.dead 151) .leaf)) (.dead 152))) (.dead 153)))) (.split (.bin .rem (.var 4) (.lit 1000)) (-1) (.split (.bin .sub (.bin .mul (.bin .mul (.bin .add (.lit 1) (.bin .add (.bin .rem (.var 4) (.lit 1000)) (.lit 1000))) (.lit 37)) (.lit (-122))) (.bin .mul (.bin .mul (.bin .add (.lit 1) (.bin .add (.bin .rem (.var 4) (.lit 1000)) (.lit 1000))) (.lit (-122))) (.lit 37))) (-1) (.dead 154) (.split (.bin .sub (.bin .mul (.bin .mul (.bin .add (.lit 1) (.bin .add (.bin .rem (.var 4) (.lit 1000)) (.lit 1000))) (.lit 37)) (.lit (-122))) (.bin .mul (.bin .mul (.bin .add (.lit 1) (.bin .add (.bin .rem (.var 4) (.lit 1000)) (.lit 1000))) (.lit (-122))) (.lit 37))) 0 (.split (.bin .sub (.bin .add (.bin .mul (.bin .mul (.bin .add (.lit 1) (.bin .add (.bin .rem (.var 4) (.lit 1000)) (.lit 1000))) (.lit (-122))) (.lit (-122))) (.bin .mul (.bin .mul (.bin .add (.lit 1) (.bin .add (.bin .rem (.var 4) (.lit 1000)) (.lit 1000))) (.lit 37)) (.lit 37))) (.bin .mul (.bin .add (.lit 1) (.bin .add (.bin .rem (.var 4) (.lit 1000)) (.lit 1000))) (.lit 16253))) (-1) (.dead 155) (.split (.bin .sub (.bin .add (.bin .mul (.bin .mul (.bin .add (.lit 1) (.bin .add (.bin .rem (.var 4) (.lit 1000)) (.lit 1000))) (.lit (-122))) (.lit (-122))) (.bin .mul (.bin .mul (.bin .add (.lit 1) (.bin .add (.bin .rem (.var 4) (.lit 1000)) (.lit 1000))) (.lit 37)) (.lit 37))) (.bin .mul (.bin .add (.lit 1) (.bin .add (.bin .rem (.var 4) (.lit 1000)) (.lit 1000))) (.lit 16253))) 0 (.split (.bin .sub (.bin .add (.bin .mul (.bin .mul (.bin .add (.lit 1) (.bin .add (.bin .rem (.var 4) (.lit 1000)) (.lit 1000))) (.lit (-122))) (.lit (-122))) (.bin .mul (.bin .mul (.bin .add (.lit 1) (.bin .add (.bin .rem (.var 4) (.lit 1000)) (.lit 1000))) (.lit 37)) (.lit 37))) (.bin .mul (.lit 16020) (.bin .add (.lit 1) (.bin .add (.bin .rem (.var 4) (.lit 1000)) (.lit 1000))))) (-1) (.dead 156) (.split (.bin .sub (.bin .mul (.lit 16277) (.bin .add (.lit 1) (.bin .add (.bin .rem (.var 4) (.lit 1000)) (.lit 1000)))) (.bin .add (.bin .mul (.bin .mul (.bin .add (.lit 1) (.bin .add (.bin .rem (.var 4) (.lit 1000)) (.lit 1000))) (.lit (-122))) (.lit (-122))) (.bin .mul (.bin .mul (.bin .add (.lit 1) (.bin .add (.bin .rem (.var 4) (.lit 1000)) (.lit 1000))) (.lit 37)) (.lit 37)))) (-1) (.dead 157) .leaf)) (.dead 158))) (.dead 159))) (.split (.bin .sub (.bin .mul (.bin .mul (.bin .add (.lit 1) (.bin .rem (.var 4) (.lit 1000))) (.lit 37)) (.lit (-122))) (.bin .mul (.bin .mul (.bin .add (.lit 1) (.bin .rem (.var 4) (.lit 1000))) (.lit (-122))) (.lit 37))) (-1) (.dead 160) (.split (.bin .sub (.bin .mul (.bin .mul (.bin .add (.lit 1) (.bin .rem (.var 4) (.lit 1000))) (.lit 37)) (.lit (-122))) (.bin .mul (.bin .mul (.bin .add (.lit 1) (.bin .rem (.var 4) (.lit 1000))) (.lit (-122))) (.lit 37))) 0 (.split (.bin .sub (.bin .add (.bin .mul (.bin .mul (.bin .add (.lit 1) (.bin .rem (.var 4) (.lit 1000))) (.lit (-122))) (.lit (-122))) (.bin .mul (.bin .mul (.bin .add (.lit 1) (.bin .rem (.var 4) (.lit 1000))) (.lit 37)) (.lit 37))) (.bin .mul (.bin .add (.lit 1) (.bin .rem (.var 4) (.lit 1000))) (.lit 16253))) (-1) (.dead 161) (.split (.bin .sub (.bin .add (.bin .mul (.bin .mul (.bin .add (.lit 1) (.bin .rem (.var 4) (.lit 1000))) (.lit (-122))) (.lit (-122))) (.bin .mul (.bin .mul (.bin .add (.lit 1) (.bin .rem (.var 4) (.lit 1000))) (.lit 37)) (.lit 37))) (.bin .mul (.bin .add (.lit 1) (.bin .rem (.var 4) (.lit 1000))) (.lit 16253))) 0 (.split (.bin .sub (.bin .add (.bin .mul (.bin .mul (.bin .add (.lit 1) (.bin .rem (.var 4) (.lit 1000))) (.lit (-122))) (.lit (-122))) (.bin .mul (.bin .mul (.bin .add (.lit 1) (.bin .rem (.var 4) (.lit 1000))) (.lit 37)) (.lit 37))) (.bin .mul (.lit 16020) (.bin .add (.lit 1) (.bin .rem (.var 4) (.lit 1000))))) (-1) (.dead 162) (.split (.bin .sub (.bin .mul (.lit 16277) (.bin .add (.lit 1) (.bin .rem (.var 4) (.lit 1000)))) (.bin .add (.bin .mul (.bin .mul (.bin .add (.lit 1) (.bin .rem (.var 4) (.lit 1000))) (.lit (-122))) (.lit (-122))) (.bin .mul (.bin .mul (.bin .add (.lit 1) (.bin .rem (.var 4) (.lit 1000))) (.lit 37)) (.lit 37)))) (-1) (.dead 163) .leaf)) (.dead 164))) (.dead 165))))) (.split (.bin .fdiv (.var 0) (.lit 67108864)) 30 (.split (.bin .rem (.var 4) (.lit 1000)) (-1) (.split (.bin .sub (.bin .mul (.bin .mul (.bin .add (.lit 1) (.bin .add (.bin .rem (.var 4) (.lit 1000)) (.lit 1000))) (.lit 25)) (.lit (-125))) (.bin .mul (.bin .mul (.bin .add (.lit 1) (.bin .add (.bin .rem (.var 4) (.lit 1000)) (.lit 1000))) (.lit (-125))) (.lit 25))) (-1) (.dead 166) (.split (.bin .sub (.bin .mul (.bin .mul (.bin .add (.lit 1) (.bin .add (.bin .rem (.var 4) (.lit 1000)) (.lit 1000))) (.lit 25)) (.lit (-125))) (.bin .mul (.bin .mul (.bin .add (.lit 1) (.bin .add (.bin .rem (.var 4) (.lit 1000)) (.lit 1000))) (.lit (-125))) (.lit 25))) 0 (.split (.bin .sub (.bin .add (.bin .mul (.bin .mul (.bin .add (.lit 1) (.bin .add (.bin .rem (.var 4) (.lit 1000)) (.lit 1000))) (.lit (-125))) (.lit (-125))) (.bin .mul (.bin .mul (.bin .add (.lit 1) (.bin .add (.bin .rem (.var 4) (.lit 1000)) (.lit 1000))) (.lit 25)) (.lit 25))) (.bin .mul (.bin .add (.lit 1) (.bin .add (.bin .rem (.var 4) (.lit 1000)) (.lit 1000))) (.lit 16250))) (-1) (.dead 167) (.split (.bin .sub (.bin .add (.bin .mul (.bin .mul (.bin .add (.lit 1) (.bin .add (.bin .rem (.var 4) (.lit 1000)) (.lit 1000))) (.lit (-125))) (.lit (-125))) (.bin .mul (.bin .mul (.bin .add (.lit 1) (.bin .add (.bin .rem (.var 4) (.lit 1000)) (.lit 1000))) (.lit 25)) (.lit 25))) (.bin .mul (.bin .add (.lit 1) (.bin .add (.bin .rem (.var 4) (.lit 1000)) (.lit 1000))) (.lit 16250))) 0 (.split (.bin .sub (.bin .add (.bin .mul (.bin .mul (.bin .add (.lit 1) (.bin .add (.bin .rem (.var 4) (.lit 1000)) (.lit 1000))) (.lit (-125))) (.lit (-125))) (.bin .mul (.bin .mul (.bin .add (.lit 1) (.bin .add (.bin .rem (.var 4) (.lit 1000)) (.lit 1000))) (.lit 25)) (.lit 25))) (.bin .mul (.lit 16020) (.bin .add (.lit 1) (.bin .add (.bin .rem (.var 4) (.lit 1000)) (.lit 1000))))) (-1) (.dead 168) (.split (.bin .sub (.bin .mul (.lit 16277) (.bin .add (.lit 1) (.bin .add (.bin .rem (.var 4) (.lit 1000)) (.lit 1000)))) (.bin .add (.bin .mul (.bin .mul (.bin .add (.lit 1) (.bin .add (.bin .rem (.var 4) (.lit 1000)) (.lit 1000))) (.lit (-125))) (.lit (-125))) (.bin .mul (.bin .mul (.bin .add (.lit 1) (.bin .add (.bin .rem (.var 4) (.lit 1000)) (.lit 1000))) (.lit 25)) (.lit 25)))) (-1) (.dead 169) .leaf)) (.dead 170))) (.dead 171))) (.split (.bin .sub (.bin .mul (.bin .mul (.bin .add (.lit 1) (.bin .rem (.var 4) (.lit 1000))) (.lit 25)) (.lit (-125))) (.bin .mul (.bin .mul (.bin .add (.lit 1) (.bin .rem (.var 4) (.lit 1000))) (.lit (-125))) (.lit 25))) (-1) (.dead 172) (.split (.bin .sub (.bin .mul (.bin .mul (.bin .add (.lit 1) (.bin .rem (.var 4) (.lit 1000))) (.lit 25)) (.lit (-125))) (.bin .mul (.bin .mul (.bin .add (.lit 1) (.bin .rem (.var 4) (.lit 1000))) (.lit (-125))) (.lit 25))) 0 (.split (.bin .sub (.bin .add (.bin .mul (.bin .mul (.bin .add (.lit 1) (.bin .rem (.var 4) (.lit 1000))) (.lit (-125))) (.lit (-125))) (.bin .mul (.bin .mul (.bin .add (.lit 1) (.bin .rem (.var 4) (.lit 1000))) (.lit 25)) (.lit 25))) (.bin .mul (.bin .add (.lit 1) (.bin .rem (.var 4) (.lit 1000))) (.lit 16250))) (-1) (.dead 173) (.split (.bin .sub (.bin .add (.bin .mul (.bin .mul (.bin .add (.lit 1) (.bin .rem (.var 4) (.lit 1000))) (.lit (-125))) (.lit (-125))) (.bin .mul (.bin .mul (.bin .add (.lit 1) (.bin .rem (.var 4) (.lit 1000))) (.lit 25)) (.lit 25))) (.bin .mul (.bin .add (.lit 1) (.bin .rem (.var 4) (.lit 1000))) (.lit 16250))) 0 (.split (.bin .sub (.bin .add (.bin .mul (.bin .mul (.bin .add (.lit 1) (.bin .rem (.var 4) (.lit 1000))) (.lit (-125))) (.lit (-125))) (.bin .mul (.bin .mul (.bin .add (.lit 1) (.bin .rem (.var 4) (.lit 1000))) (.lit 25)) (.lit 25))) (.bin .mul (.lit 16020) (.bin .add (.lit 1) (.bin .rem (.var 4) (.lit 1000))))) (-1) (.dead 174) (.split (.bin .sub (.bin .mul (.lit 16277) (.bin .add (.lit 1) (.bin .rem (.var 4) (.lit 1000)))) (.bin .add (.bin .mul (.bin .mul (.bin .add (.lit 1) (.bin .rem (.var 4) (.lit 1000))) (.lit (-125))) (.lit (-125))) (.bin .mul (.bin .mul (.bin .add (.lit 1) (.bin .rem (.var 4) (.lit 1000))) (.lit 25)) (.lit 25)))) (-1) (.dead 175) .leaf)) (.dead 176))) (.dead 177)))) (.split (.bin .rem (.var 4) (.lit 1000)) (-1) (.split (.bin .sub (.bin .mul (.bin .mul (.bin .add (.lit 1) (.bin .add (.bin .rem (.var 4) (.lit 1000)) (.lit 1000))) (.lit 12)) (.lit (-126))) (.bin .mul (.bin .mul (.bin .add (.lit 1) (.bin .add (.bin .rem (.var 4) (.lit 1000)) (.lit 1000))) (.lit (-126))) (.lit 12))) (-1) (.dead 178) (.split (.bin .sub (.bin .mul (.bin .mul (.bin .add (.lit 1) (.bin .add (.bin .rem (.var 4) (.lit 1000)) (.lit 1000))) (.lit 12)) (.lit (-126))) (.bin .mul (.bin .mul (.bin .add (.lit 1) (.bin .add (.bin .rem (.var 4) (.lit 1000)) (.lit 1000))) (.lit (-126))) (.lit 12))) 0 (.split (.bin .sub (.bin .add (.bin .mul (.bin .mul (.bin .add (.lit 1) (.bin .add (.bin .rem (.var 4) (.lit 1000)) (.lit 1000))) (.lit (-126))) (.lit (-126))) (.bin .mul (.bin .mul (.bin .add (.lit 1) (.bin .add (.bin .rem (.var 4) (.lit 1000)) (.lit 1000))) (.lit 12)) (.lit 12))) (.bin .mul (.bin .add (.lit 1) (.bin .add (.bin .rem (.var 4) (.lit 1000)) (.lit 1000))) (.lit 16020))) (-1) (.dead 179) (.split (.bin .sub (.bin .add (.bin .mul (.bin .mul (.bin .add (.lit 1) (.bin .add (.bin .rem (.var 4) (.lit 1000)) (.lit 1000))) (.lit (-126))) (.lit (-126))) (.bin .mul (.bin .mul (.bin .add (.lit 1) (.bin .add (.bin .rem (.var 4) (.lit 1000)) (.lit 1000))) (.lit 12)) (.lit 12))) (.bin .mul (.bin .add (.lit 1) (.bin .add (.bin .rem (.var 4) (.lit 1000)) (.lit 1000))) (.lit 16020))) 0 (.split (.bin .sub (.bin .add (.bin .mul (.bin .mul (.bin .add (.lit 1) (.bin .add (.bin .rem (.var 4) (.lit 1000)) (.lit 1000))) (.lit (-126))) (.lit (-126))) (.bin .mul (.bin .mul (.bin .add (.lit 1) (.bin .add (.bin .rem (.var 4) (.lit 1000)) (.lit 1000))) (.lit 12)) (.lit 12))) (.bin .mul (.lit 16020) (.bin .add (.lit 1) (.bin .add (.bin .rem (.var 4) (.lit 1000)) (.lit 1000))))) (-1) (.dead 180) (.split (.bin .sub (.bin .mul (.lit 16277) (.bin .add (.lit 1) (.bin .add (.bin .rem (.var 4) (.lit 1000)) (.lit 1000)))) (.bin .add (.bin .mul (.bin .mul (.bin .add (.lit 1) (.bin .add (.bin .rem (.var 4) (.lit 1000)) (.lit 1000))) (.lit (-126))) (.lit (-126))) (.bin .mul (.bin .mul (.bin .add (.lit 1) (.bin .add (.bin .rem (.var 4) (.lit 1000)) (.lit 1000))) (.lit 12)) (.lit 12)))) (-1) (.dead 181) .leaf)) (.dead 182))) (.dead 183))) (.split (.bin .sub (.bin .mul (.bin .mul (.bin .add (.lit 1) (.bin .rem (.var 4) (.lit 1000))) (.lit 12)) (.lit (-126))) (.bin .mul (.bin .mul (.bin .add (.lit 1) (.bin .rem (.var 4) (.lit 1000))) (.lit (-126))) (.lit 12))) (-1) (.dead 184) (.split (.bin .sub (.bin .mul (.bin .mul (.bin .add (.lit 1) (.bin .rem (.var 4) (.lit 1000))) (.lit 12)) (.lit (-126))) (.bin .mul (.bin .mul (.bin .add (.lit 1) (.bin .rem (.var 4) (.lit 1000))) (.lit (-126))) (.lit 12))) 0 (.split (.bin .sub (.bin .add (.bin .mul (.bin .mul (.bin .add (.lit 1) (.bin .rem (.var 4) (.lit 1000))) (.lit (-126))) (.lit (-126))) (.bin .mul (.bin .mul (.bin .add (.lit 1) (.bin .rem (.var 4) (.lit 1000))) (.lit 12)) (.lit 12))) (.bin .mul (.bin .add (.lit 1) (.bin .rem (.var 4) (.lit 1000))) (.lit 16020))) (-1) (.dead 185) (.split (.bin .sub (.bin .add (.bin .mul (.bin .mul (.bin .add (.lit 1) (.bin .rem (.var 4) (.lit 1000))) (.lit (-126))) (.lit (-126))) (.bin .mul (.bin .mul (.bin .add (.lit 1) (.bin .rem (.var 4) (.lit 1000))) (.lit 12)) (.lit 12))) (.bin .mul (.bin .add (.lit 1) (.bin .rem (.var 4) (.lit 1000))) (.lit 16020))) 0 (.split (.bin .sub (.bin .add (.bin .mul (.bin .mul (.bin .add (.lit 1) (.bin .rem (.var 4) (.lit 1000))) (.lit (-126))) (.lit (-126))) (.bin .mul (.bin .mul (.bin .add (.lit 1) (.bin .rem (.var 4) (.lit 1000))) (.lit 12)) (.lit 12))) (.bin .mul (.lit 16020) (.bin .add (.lit 1) (.bin .rem (.var 4) (.lit 1000))))) (-1) (.dead 186) (.split (.bin .sub (.bin .mul (.lit 16277) (.bin .add (.lit 1) (.bin .rem (.var 4) (.lit 1000)))) (.bin .add (.bin .mul (.bin .mul (.bin .add (.lit 1) (.bin .rem (.var 4) (.lit 1000))) (.lit (-126))) (.lit (-126))) (.bin .mul (.bin .mul (.bin .add (.lit 1) (.bin .rem (.var 4) (.lit 1000))) (.lit 12)) (.lit 12)))) (-1) (.dead 187) .leaf)) (.dead 188))) (.dead 189)))))))) (.dead 190))) (.dead 191)))
set_option maxRecDepth 100000 in
theorem ranp0 : checkT theRun deads part0 (facts0) = true := by kernel_rfl
theorem ran : checkT (fun F => @runS ⟨F⟩ Tryd.prog [(72, Go.Ev.Ext.add64), (60, Go.Ev.Ext.sub64)] [(0, tabled.map (Go.Ev.EV.int .i64))] 300 7 args0 isTrue) deads part0 facts0 = true := ranp0
end r16
end
end Go.Proofs.YtikcjpkocadfdaaDoor.angleTurns
