import Derived.Test.YtjnobggefofjcacDoorDig
import Derived.Test.YtjnobggefofjcacDoorLaw
namespace Go.Proofs.YtjnobggefofjcacDoor
open Go.RowKit

theorem gStart : Tryd.prog.globalNamed "loop.example/g00967/impl.startWords" = some 0 := by kernel_rfl
theorem gStartType : (Tryd.prog.globals[0]?).map (·.type) = some 67 := by kernel_rfl
theorem gKeys : Tryd.prog.globalNamed "loop.example/g00967/impl.roundWords" = some 2 := by kernel_rfl
theorem gKeysType : (Tryd.prog.globals[2]?).map (·.type) = some 42 := by kernel_rfl
theorem cells40 : Tryd.prog.cellsOf 67 = 8 := by kernel_rfl
theorem cells38 : Tryd.prog.cellsOf 42 = 64 := by kernel_rfl
theorem cells34 : Tryd.prog.cellsOf 39 = 1 := by kernel_rfl

theorem startInts_eq : startInts = [1779033703, 3144134277, 1013904242, 2773480762, 1359893119, 2600822924, 528734635, 1541459225] := by unfold startInts; rfl
theorem keyInts_eq : keyInts = [1116352408, 1899447441, 3049323471, 3921009573, 961987163, 1508970993, 2453635748, 2870763221, 3624381080, 310598401, 607225278, 1426881987, 1925078388, 2162078206, 2614888103, 3248222580, 3835390401, 4022224774, 264347078, 604807628, 770255983, 1249150122, 1555081692, 1996064986, 2554220882, 2821834349, 2952996808, 3210313671, 3336571891, 3584528711, 113926993, 338241895, 666307205, 773529912, 1294757372, 1396182291, 1695183700, 1986661051, 2177026350, 2456956037, 2730485921, 2820302411, 3259730800, 3345764771, 3516065817, 3600352804, 4094571909, 275423344, 430227734, 506948616, 659060556, 883997877, 958139571, 1322822218, 1537002063, 1747873779, 1955562222, 2024104815, 2227730452, 2361852424, 2428436474, 2756734187, 3204031479, 3329325298] := by unfold keyInts; rfl

theorem startTab {W : World} {rest : List (String × DataW Unit)} (h : laidMet Tryd.prog (("loop.example/g00967/impl.startWords", Rows.laid_loop_example_g00967_impl_startWords) :: rest) W) : Starts W := by
  have ht : Lib.TabIs Tryd.prog W "loop.example/g00967/impl.startWords" .u32 [1779033703, 3144134277, 1013904242, 2773480762, 1359893119, 2600822924, 528734635, 1541459225] :=
    Lib.tabIs_of_head (rest := rest) gStart gStartType Tryd.underlying67 Tryd.underlying39 cells34 cells40 h
  intro i hi
  rw [ht.cell gStart i (by simpa using hi), ← startInts_eq, startInts_get i hi]

theorem keysTab {W : World} {rest : List (String × DataW Unit)} (h : laidMet Tryd.prog (("loop.example/g00967/impl.roundWords", Rows.laid_loop_example_g00967_impl_roundWords) :: rest) W) : Keys W := by
  have ht : Lib.TabIs Tryd.prog W "loop.example/g00967/impl.roundWords" .u32 [1116352408, 1899447441, 3049323471, 3921009573, 961987163, 1508970993, 2453635748, 2870763221, 3624381080, 310598401, 607225278, 1426881987, 1925078388, 2162078206, 2614888103, 3248222580, 3835390401, 4022224774, 264347078, 604807628, 770255983, 1249150122, 1555081692, 1996064986, 2554220882, 2821834349, 2952996808, 3210313671, 3336571891, 3584528711, 113926993, 338241895, 666307205, 773529912, 1294757372, 1396182291, 1695183700, 1986661051, 2177026350, 2456956037, 2730485921, 2820302411, 3259730800, 3345764771, 3516065817, 3600352804, 4094571909, 275423344, 430227734, 506948616, 659060556, 883997877, 958139571, 1322822218, 1537002063, 1747873779, 1955562222, 2024104815, 2227730452, 2361852424, 2428436474, 2756734187, 3204031479, 3329325298] :=
    Lib.tabIs_of_head (rest := rest) gKeys gKeysType Tryd.underlying42 Tryd.underlying39 cells34 cells38 h
  intro i hi
  rw [ht.cell gKeys i (by simpa using hi), ← keyInts_eq, keyInts_get i hi]

end Go.Proofs.YtjnobggefofjcacDoor
