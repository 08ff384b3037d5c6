/-
  Numbers for ofBytes: one byte more. The walk of ofBytes. Whether two elements are the same limbs. The walks of Equal, Odd, Int. Bytes as strings; bytes.Equal. The walk of Read. The walk of Pow. The walk of Inv. The reference: rows of ints; P, Less. The reference: Digits, Bytes. The reference: Minus, Plus. The reference: Times. A region that draws its order, whose last operation (number z) turns what the others read: what they read need hold only till it comes up.
-/
import Derived.Test.YtabgihjffjlfiaaGreatDoorC0
import Derived.DeepKeys
import Derived.Deep.MidRow
import Derived.Lib.Strings
import Derived.Laws.BytesString
import Derived.Laws.CopyOwn
import Derived.Laws.AppendOwn
import Derived.StillTail
set_option linter.unusedVariables false
namespace Go.Proofs.YtabgihjffjlfiaaGreatDoor
theorem ss0 (V c : Nat) (hV : V < 1) (hc : c < 256) : (splitE V).list.getD 0 0 < 1 ∧ (splitE V).list.getD 1 0 = 0 ∧ (((splitE V).list.set 0 ((splitE V).list.getD 0 0 + c * 1 % 2251799813685248)).set 1 (c / 2251799813685248)) = (splitE (V + 1 * c)).list := by
 simp only [splitE, E5.list, lS, lZ, List.getD_cons_succ, List.getD_cons_zero, List.cons.injEq, and_true]
 omega
theorem ss1 (V c : Nat) (hV : V < 256) (hc : c < 256) : (splitE V).list.getD 0 0 < 256 ∧ (splitE V).list.getD 1 0 = 0 ∧ (((splitE V).list.set 0 ((splitE V).list.getD 0 0 + c * 256 % 2251799813685248)).set 1 (c / 8796093022208)) = (splitE (V + 256 * c)).list := by
 simp only [splitE, E5.list, lS, lZ, List.getD_cons_succ, List.getD_cons_zero, List.cons.injEq, and_true]
 omega
theorem ss2 (V c : Nat) (hV : V < 65536) (hc : c < 256) : (splitE V).list.getD 0 0 < 65536 ∧ (splitE V).list.getD 1 0 = 0 ∧ (((splitE V).list.set 0 ((splitE V).list.getD 0 0 + c * 65536 % 2251799813685248)).set 1 (c / 34359738368)) = (splitE (V + 65536 * c)).list := by
 simp only [splitE, E5.list, lS, lZ, List.getD_cons_succ, List.getD_cons_zero, List.cons.injEq, and_true]
 omega
theorem ss3 (V c : Nat) (hV : V < 16777216) (hc : c < 256) : (splitE V).list.getD 0 0 < 16777216 ∧ (splitE V).list.getD 1 0 = 0 ∧ (((splitE V).list.set 0 ((splitE V).list.getD 0 0 + c * 16777216 % 2251799813685248)).set 1 (c / 134217728)) = (splitE (V + 16777216 * c)).list := by
 simp only [splitE, E5.list, lS, lZ, List.getD_cons_succ, List.getD_cons_zero, List.cons.injEq, and_true]
 omega
theorem ss4 (V c : Nat) (hV : V < 4294967296) (hc : c < 256) : (splitE V).list.getD 0 0 < 4294967296 ∧ (splitE V).list.getD 1 0 = 0 ∧ (((splitE V).list.set 0 ((splitE V).list.getD 0 0 + c * 4294967296 % 2251799813685248)).set 1 (c / 524288)) = (splitE (V + 4294967296 * c)).list := by
 simp only [splitE, E5.list, lS, lZ, List.getD_cons_succ, List.getD_cons_zero, List.cons.injEq, and_true]
 omega
theorem ss5 (V c : Nat) (hV : V < 1099511627776) (hc : c < 256) : (splitE V).list.getD 0 0 < 1099511627776 ∧ (splitE V).list.getD 1 0 = 0 ∧ (((splitE V).list.set 0 ((splitE V).list.getD 0 0 + c * 1099511627776 % 2251799813685248)).set 1 (c / 2048)) = (splitE (V + 1099511627776 * c)).list := by
 simp only [splitE, E5.list, lS, lZ, List.getD_cons_succ, List.getD_cons_zero, List.cons.injEq, and_true]
 omega
theorem ss6 (V c : Nat) (hV : V < 281474976710656) (hc : c < 256) : (splitE V).list.getD 0 0 < 281474976710656 ∧ (splitE V).list.getD 1 0 = 0 ∧ (((splitE V).list.set 0 ((splitE V).list.getD 0 0 + c * 281474976710656 % 2251799813685248)).set 1 (c / 8)) = (splitE (V + 281474976710656 * c)).list := by
 simp only [splitE, E5.list, lS, lZ, List.getD_cons_succ, List.getD_cons_zero, List.cons.injEq, and_true]
 omega
theorem ss7 (V c : Nat) (hV : V < 72057594037927936) (hc : c < 256) : (splitE V).list.getD 1 0 < 32 ∧ (splitE V).list.getD 2 0 = 0 ∧ (((splitE V).list.set 1 ((splitE V).list.getD 1 0 + c * 32 % 2251799813685248)).set 2 (c / 70368744177664)) = (splitE (V + 72057594037927936 * c)).list := by
 simp only [splitE, E5.list, lS, lZ, List.getD_cons_succ, List.getD_cons_zero, List.cons.injEq, and_true]
 omega
theorem ss8 (V c : Nat) (hV : V < 18446744073709551616) (hc : c < 256) : (splitE V).list.getD 1 0 < 8192 ∧ (splitE V).list.getD 2 0 = 0 ∧ (((splitE V).list.set 1 ((splitE V).list.getD 1 0 + c * 8192 % 2251799813685248)).set 2 (c / 274877906944)) = (splitE (V + 18446744073709551616 * c)).list := by
 simp only [splitE, E5.list, lS, lZ, List.getD_cons_succ, List.getD_cons_zero, List.cons.injEq, and_true]
 omega
theorem ss9 (V c : Nat) (hV : V < 4722366482869645213696) (hc : c < 256) : (splitE V).list.getD 1 0 < 2097152 ∧ (splitE V).list.getD 2 0 = 0 ∧ (((splitE V).list.set 1 ((splitE V).list.getD 1 0 + c * 2097152 % 2251799813685248)).set 2 (c / 1073741824)) = (splitE (V + 4722366482869645213696 * c)).list := by
 simp only [splitE, E5.list, lS, lZ, List.getD_cons_succ, List.getD_cons_zero, List.cons.injEq, and_true]
 omega
theorem ss10 (V c : Nat) (hV : V < 1208925819614629174706176) (hc : c < 256) : (splitE V).list.getD 1 0 < 536870912 ∧ (splitE V).list.getD 2 0 = 0 ∧ (((splitE V).list.set 1 ((splitE V).list.getD 1 0 + c * 536870912 % 2251799813685248)).set 2 (c / 4194304)) = (splitE (V + 1208925819614629174706176 * c)).list := by
 simp only [splitE, E5.list, lS, lZ, List.getD_cons_succ, List.getD_cons_zero, List.cons.injEq, and_true]
 omega
theorem ss11 (V c : Nat) (hV : V < 309485009821345068724781056) (hc : c < 256) : (splitE V).list.getD 1 0 < 137438953472 ∧ (splitE V).list.getD 2 0 = 0 ∧ (((splitE V).list.set 1 ((splitE V).list.getD 1 0 + c * 137438953472 % 2251799813685248)).set 2 (c / 16384)) = (splitE (V + 309485009821345068724781056 * c)).list := by
 simp only [splitE, E5.list, lS, lZ, List.getD_cons_succ, List.getD_cons_zero, List.cons.injEq, and_true]
 omega
theorem ss12 (V c : Nat) (hV : V < 79228162514264337593543950336) (hc : c < 256) : (splitE V).list.getD 1 0 < 35184372088832 ∧ (splitE V).list.getD 2 0 = 0 ∧ (((splitE V).list.set 1 ((splitE V).list.getD 1 0 + c * 35184372088832 % 2251799813685248)).set 2 (c / 64)) = (splitE (V + 79228162514264337593543950336 * c)).list := by
 simp only [splitE, E5.list, lS, lZ, List.getD_cons_succ, List.getD_cons_zero, List.cons.injEq, and_true]
 omega
theorem ss13 (V c : Nat) (hV : V < 20282409603651670423947251286016) (hc : c < 256) : (splitE V).list.getD 2 0 < 4 ∧ (splitE V).list.getD 3 0 = 0 ∧ (((splitE V).list.set 2 ((splitE V).list.getD 2 0 + c * 4 % 2251799813685248)).set 3 (c / 562949953421312)) = (splitE (V + 20282409603651670423947251286016 * c)).list := by
 simp only [splitE, E5.list, lS, lZ, List.getD_cons_succ, List.getD_cons_zero, List.cons.injEq, and_true]
 omega
theorem ss14 (V c : Nat) (hV : V < 5192296858534827628530496329220096) (hc : c < 256) : (splitE V).list.getD 2 0 < 1024 ∧ (splitE V).list.getD 3 0 = 0 ∧ (((splitE V).list.set 2 ((splitE V).list.getD 2 0 + c * 1024 % 2251799813685248)).set 3 (c / 2199023255552)) = (splitE (V + 5192296858534827628530496329220096 * c)).list := by
 simp only [splitE, E5.list, lS, lZ, List.getD_cons_succ, List.getD_cons_zero, List.cons.injEq, and_true]
 omega
theorem ss15 (V c : Nat) (hV : V < 1329227995784915872903807060280344576) (hc : c < 256) : (splitE V).list.getD 2 0 < 262144 ∧ (splitE V).list.getD 3 0 = 0 ∧ (((splitE V).list.set 2 ((splitE V).list.getD 2 0 + c * 262144 % 2251799813685248)).set 3 (c / 8589934592)) = (splitE (V + 1329227995784915872903807060280344576 * c)).list := by
 simp only [splitE, E5.list, lS, lZ, List.getD_cons_succ, List.getD_cons_zero, List.cons.injEq, and_true]
 omega
theorem ss16 (V c : Nat) (hV : V < 340282366920938463463374607431768211456) (hc : c < 256) : (splitE V).list.getD 2 0 < 67108864 ∧ (splitE V).list.getD 3 0 = 0 ∧ (((splitE V).list.set 2 ((splitE V).list.getD 2 0 + c * 67108864 % 2251799813685248)).set 3 (c / 33554432)) = (splitE (V + 340282366920938463463374607431768211456 * c)).list := by
 simp only [splitE, E5.list, lS, lZ, List.getD_cons_succ, List.getD_cons_zero, List.cons.injEq, and_true]
 omega
theorem ss17 (V c : Nat) (hV : V < 87112285931760246646623899502532662132736) (hc : c < 256) : (splitE V).list.getD 2 0 < 17179869184 ∧ (splitE V).list.getD 3 0 = 0 ∧ (((splitE V).list.set 2 ((splitE V).list.getD 2 0 + c * 17179869184 % 2251799813685248)).set 3 (c / 131072)) = (splitE (V + 87112285931760246646623899502532662132736 * c)).list := by
 simp only [splitE, E5.list, lS, lZ, List.getD_cons_succ, List.getD_cons_zero, List.cons.injEq, and_true]
 omega
theorem ss18 (V c : Nat) (hV : V < 22300745198530623141535718272648361505980416) (hc : c < 256) : (splitE V).list.getD 2 0 < 4398046511104 ∧ (splitE V).list.getD 3 0 = 0 ∧ (((splitE V).list.set 2 ((splitE V).list.getD 2 0 + c * 4398046511104 % 2251799813685248)).set 3 (c / 512)) = (splitE (V + 22300745198530623141535718272648361505980416 * c)).list := by
 simp only [splitE, E5.list, lS, lZ, List.getD_cons_succ, List.getD_cons_zero, List.cons.injEq, and_true]
 omega
theorem ss19 (V c : Nat) (hV : V < 5708990770823839524233143877797980545530986496) (hc : c < 256) : (splitE V).list.getD 2 0 < 1125899906842624 ∧ (splitE V).list.getD 3 0 = 0 ∧ (((splitE V).list.set 2 ((splitE V).list.getD 2 0 + c * 1125899906842624 % 2251799813685248)).set 3 (c / 2)) = (splitE (V + 5708990770823839524233143877797980545530986496 * c)).list := by
 simp only [splitE, E5.list, lS, lZ, List.getD_cons_succ, List.getD_cons_zero, List.cons.injEq, and_true]
 omega
theorem ss20 (V c : Nat) (hV : V < 1461501637330902918203684832716283019655932542976) (hc : c < 256) : (splitE V).list.getD 3 0 < 128 ∧ (splitE V).list.getD 4 0 = 0 ∧ (((splitE V).list.set 3 ((splitE V).list.getD 3 0 + c * 128 % 2251799813685248)).set 4 (c / 17592186044416)) = (splitE (V + 1461501637330902918203684832716283019655932542976 * c)).list := by
 simp only [splitE, E5.list, lS, lZ, List.getD_cons_succ, List.getD_cons_zero, List.cons.injEq, and_true]
 omega
theorem ss21 (V c : Nat) (hV : V < 374144419156711147060143317175368453031918731001856) (hc : c < 256) : (splitE V).list.getD 3 0 < 32768 ∧ (splitE V).list.getD 4 0 = 0 ∧ (((splitE V).list.set 3 ((splitE V).list.getD 3 0 + c * 32768 % 2251799813685248)).set 4 (c / 68719476736)) = (splitE (V + 374144419156711147060143317175368453031918731001856 * c)).list := by
 simp only [splitE, E5.list, lS, lZ, List.getD_cons_succ, List.getD_cons_zero, List.cons.injEq, and_true]
 omega
theorem ss22 (V c : Nat) (hV : V < 95780971304118053647396689196894323976171195136475136) (hc : c < 256) : (splitE V).list.getD 3 0 < 8388608 ∧ (splitE V).list.getD 4 0 = 0 ∧ (((splitE V).list.set 3 ((splitE V).list.getD 3 0 + c * 8388608 % 2251799813685248)).set 4 (c / 268435456)) = (splitE (V + 95780971304118053647396689196894323976171195136475136 * c)).list := by
 simp only [splitE, E5.list, lS, lZ, List.getD_cons_succ, List.getD_cons_zero, List.cons.injEq, and_true]
 omega
theorem ss23 (V c : Nat) (hV : V < 24519928653854221733733552434404946937899825954937634816) (hc : c < 256) : (splitE V).list.getD 3 0 < 2147483648 ∧ (splitE V).list.getD 4 0 = 0 ∧ (((splitE V).list.set 3 ((splitE V).list.getD 3 0 + c * 2147483648 % 2251799813685248)).set 4 (c / 1048576)) = (splitE (V + 24519928653854221733733552434404946937899825954937634816 * c)).list := by
 simp only [splitE, E5.list, lS, lZ, List.getD_cons_succ, List.getD_cons_zero, List.cons.injEq, and_true]
 omega
theorem ss24 (V c : Nat) (hV : V < 6277101735386680763835789423207666416102355444464034512896) (hc : c < 256) : (splitE V).list.getD 3 0 < 549755813888 ∧ (splitE V).list.getD 4 0 = 0 ∧ (((splitE V).list.set 3 ((splitE V).list.getD 3 0 + c * 549755813888 % 2251799813685248)).set 4 (c / 4096)) = (splitE (V + 6277101735386680763835789423207666416102355444464034512896 * c)).list := by
 simp only [splitE, E5.list, lS, lZ, List.getD_cons_succ, List.getD_cons_zero, List.cons.injEq, and_true]
 omega
theorem ss25 (V c : Nat) (hV : V < 1606938044258990275541962092341162602522202993782792835301376) (hc : c < 256) : (splitE V).list.getD 3 0 < 140737488355328 ∧ (splitE V).list.getD 4 0 = 0 ∧ (((splitE V).list.set 3 ((splitE V).list.getD 3 0 + c * 140737488355328 % 2251799813685248)).set 4 (c / 16)) = (splitE (V + 1606938044258990275541962092341162602522202993782792835301376 * c)).list := by
 simp only [splitE, E5.list, lS, lZ, List.getD_cons_succ, List.getD_cons_zero, List.cons.injEq, and_true]
 omega
theorem ss26 (V c : Nat) (hV : V < 411376139330301510538742295639337626245683966408394965837152256) (hc : c < 256) : (splitE V).list.getD 4 0 < 16 ∧ (splitE V).list.getD 5 0 = 0 ∧ (((splitE V).list.set 4 ((splitE V).list.getD 4 0 + c * 16 % 2251799813685248)).set 5 (c / 140737488355328)) = (splitE (V + 411376139330301510538742295639337626245683966408394965837152256 * c)).list := by
 simp only [splitE, E5.list, lS, lZ, List.getD_cons_succ, List.getD_cons_zero, List.set_nil, List.getD_nil, List.cons.injEq, and_true, true_and]
 omega
theorem ss27 (V c : Nat) (hV : V < 105312291668557186697918027683670432318895095400549111254310977536) (hc : c < 256) : (splitE V).list.getD 4 0 < 4096 ∧ (splitE V).list.getD 5 0 = 0 ∧ (((splitE V).list.set 4 ((splitE V).list.getD 4 0 + c * 4096 % 2251799813685248)).set 5 (c / 549755813888)) = (splitE (V + 105312291668557186697918027683670432318895095400549111254310977536 * c)).list := by
 simp only [splitE, E5.list, lS, lZ, List.getD_cons_succ, List.getD_cons_zero, List.set_nil, List.getD_nil, List.cons.injEq, and_true, true_and]
 omega
theorem ss28 (V c : Nat) (hV : V < 26959946667150639794667015087019630673637144422540572481103610249216) (hc : c < 256) : (splitE V).list.getD 4 0 < 1048576 ∧ (splitE V).list.getD 5 0 = 0 ∧ (((splitE V).list.set 4 ((splitE V).list.getD 4 0 + c * 1048576 % 2251799813685248)).set 5 (c / 2147483648)) = (splitE (V + 26959946667150639794667015087019630673637144422540572481103610249216 * c)).list := by
 simp only [splitE, E5.list, lS, lZ, List.getD_cons_succ, List.getD_cons_zero, List.set_nil, List.getD_nil, List.cons.injEq, and_true, true_and]
 omega
theorem ss29 (V c : Nat) (hV : V < 6901746346790563787434755862277025452451108972170386555162524223799296) (hc : c < 256) : (splitE V).list.getD 4 0 < 268435456 ∧ (splitE V).list.getD 5 0 = 0 ∧ (((splitE V).list.set 4 ((splitE V).list.getD 4 0 + c * 268435456 % 2251799813685248)).set 5 (c / 8388608)) = (splitE (V + 6901746346790563787434755862277025452451108972170386555162524223799296 * c)).list := by
 simp only [splitE, E5.list, lS, lZ, List.getD_cons_succ, List.getD_cons_zero, List.set_nil, List.getD_nil, List.cons.injEq, and_true, true_and]
 omega
theorem ss30 (V c : Nat) (hV : V < 1766847064778384329583297500742918515827483896875618958121606201292619776) (hc : c < 256) : (splitE V).list.getD 4 0 < 68719476736 ∧ (splitE V).list.getD 5 0 = 0 ∧ (((splitE V).list.set 4 ((splitE V).list.getD 4 0 + c * 68719476736 % 2251799813685248)).set 5 (c / 32768)) = (splitE (V + 1766847064778384329583297500742918515827483896875618958121606201292619776 * c)).list := by
 simp only [splitE, E5.list, lS, lZ, List.getD_cons_succ, List.getD_cons_zero, List.set_nil, List.getD_nil, List.cons.injEq, and_true, true_and]
 omega
theorem ss31 (V c : Nat) (hV : V < 452312848583266388373324160190187140051835877600158453279131187530910662656) (hc : c < 256) : (splitE V).list.getD 4 0 < 17592186044416 ∧ (splitE V).list.getD 5 0 = 0 ∧ (((splitE V).list.set 4 ((splitE V).list.getD 4 0 + c * 17592186044416 % 2251799813685248)).set 5 (c / 128)) = (splitE (V + 452312848583266388373324160190187140051835877600158453279131187530910662656 * c)).list := by
 simp only [splitE, E5.list, lS, lZ, List.getD_cons_succ, List.getD_cons_zero, List.set_nil, List.getD_nil, List.cons.injEq, and_true, true_and]
 omega
theorem split_step (V c k : Nat) (hk : k < 32) (hV : V < 256 ^ k) (hc : c < 256) : (splitE V).list.getD (8 * k / 51) 0 < 2 ^ (8 * k % 51) ∧ (splitE V).list.getD (8 * k / 51 + 1) 0 = 0 ∧
  (((splitE V).list.set (8 * k / 51) ((splitE V).list.getD (8 * k / 51) 0 + c * 2 ^ (8 * k % 51) % 2251799813685248)).set (8 * k / 51 + 1) (c / 2 ^ (51 - 8 * k % 51))) = (splitE (V + 256 ^ k * c)).list := by
 have h : k = 0 ∨ k = 1 ∨ k = 2 ∨ k = 3 ∨ k = 4 ∨ k = 5 ∨ k = 6 ∨ k = 7 ∨ k = 8 ∨ k = 9 ∨ k = 10 ∨ k = 11 ∨ k = 12 ∨ k = 13 ∨ k = 14 ∨ k = 15 ∨ k = 16 ∨ k = 17 ∨ k = 18 ∨ k = 19 ∨ k = 20 ∨ k = 21 ∨ k = 22 ∨ k = 23 ∨ k = 24 ∨ k = 25 ∨ k = 26 ∨ k = 27 ∨ k = 28 ∨ k = 29 ∨ k = 30 ∨ k = 31 := by omega
 rcases h with rfl | rfl | rfl | rfl | rfl | rfl | rfl | rfl | rfl | rfl | rfl | rfl | rfl | rfl | rfl | rfl | rfl | rfl | rfl | rfl | rfl | rfl | rfl | rfl | rfl | rfl | rfl | rfl | rfl | rfl | rfl | rfl
 ·exact ss0 V c hV hc
 ·exact ss1 V c hV hc
 ·exact ss2 V c hV hc
 ·exact ss3 V c hV hc
 ·exact ss4 V c hV hc
 ·exact ss5 V c hV hc
 ·exact ss6 V c hV hc
 ·exact ss7 V c hV hc
 ·exact ss8 V c hV hc
 ·exact ss9 V c hV hc
 ·exact ss10 V c hV hc
 ·exact ss11 V c hV hc
 ·exact ss12 V c hV hc
 ·exact ss13 V c hV hc
 ·exact ss14 V c hV hc
 ·exact ss15 V c hV hc
 ·exact ss16 V c hV hc
 ·exact ss17 V c hV hc
 ·exact ss18 V c hV hc
 ·exact ss19 V c hV hc
 ·exact ss20 V c hV hc
 ·exact ss21 V c hV hc
 ·exact ss22 V c hV hc
 ·exact ss23 V c hV hc
 ·exact ss24 V c hV hc
 ·exact ss25 V c hV hc
 ·exact ss26 V c hV hc
 ·exact ss27 V c hV hc
 ·exact ss28 V c hV hc
 ·exact ss29 V c hV hc
 ·exact ss30 V c hV hc
 ·exact ss31 V c hV hc
end Go.Proofs.YtabgihjffjlfiaaGreatDoor
set_option linter.unusedVariables false
namespace Go.Proofs.YtabgihjffjlfiaaGreatDoor
open Go.RowKit Go.Sort Go.BigFrame
set_option maxRecDepth 100000
set_option maxHeartbeats 4000000
def RelO (w wr : World) (L : List Nat) : Prop :=
 Below w.heap.size w wr ∧ wr.heap[w.heap.size]? = some (.cells z5 58 (0, 0)) ∧ wr.heap[w.heap.size + 1]? = some (.cells (ints .u64 L) 58 (0, 0))
theorem RelO.set {w wr : World} {L : List Nat} (h : RelO w wr L) (k v : Nat) : RelO w (wr.setCell ⟨w.heap.size + 1, k, none⟩ (.int .u64 (v : Int))) (L.set k v) :=
 ⟨h.1.setCell (by show w.heap.size ≤ w.heap.size + 1; omega) _, (heap_setCell_other _ _ _ _ (by show w.heap.size ≠ w.heap.size + 1; omega)).trans h.2.1, set_ints h.2.2 _ _⟩
theorem RelO.drew {w wr : World} {L : List Nat} (h : RelO w wr L) : RelO w wr.drew L := ⟨h.1.drew, h.2.1, h.2.2⟩
theorem or_part (x c sh : Nat) (hx : x < 2 ^ sh) (hs : sh < 51) (hc : c < 256) : bits .or .u64 (x : Int) (bits .and .u64 (IntKind.u64.wrap ((c : Int) * 2 ^ sh)) 2251799813685247) = ((x + c * 2 ^ sh % 2251799813685248 : Nat) : Int) := by
 have hp : 2 ^ sh ≤ 2 ^ 50 := Nat.pow_le_pow_right (by decide) (by omega)
 have h1 : c * 2 ^ sh ≤ 255 * 2 ^ 50 := Nat.mul_le_mul (by omega) hp
 have h2 : ((c : Int) * 2 ^ sh) = ((c * 2 ^ sh : Nat) : Int) := by simp
 rw [h2, wrapu _ (by omega) (by omega), and51 _ (by omega), bits_or_u64_nat _ _ (by omega) (by omega), or_add x _ sh hx]
 rw [show (2251799813685248 : Nat) = 2 ^ 51 from rfl, Nat.mod_mod_of_dvd _ (Nat.pow_dvd_pow 2 (by omega)), Nat.mul_mod_left]
theorem or_zero (c s : Nat) (hc : c < 256) : bits .or .u64 0 ((c : Int) / 2 ^ s) = ((c / 2 ^ s : Nat) : Int) := by
 have h := Nat.div_le_self c (2 ^ s)
 have := bits_or_u64_nat 0 (c / 2 ^ s) (by decide) (by omega)
 simpa using this
theorem ofBytes34 (a : Option Addr) (cap : Nat) (bs : List Nat) (w : World) (hlen : Hid (bs.length = 32)) (hcap : 32 ≤ cap) (hcap2 : cap ≤ 9223372036854775807) (hb : Dig bs) (hv : View w a bs) :
  Calls Tryz.prog 88 #[.slice a 32 cap] w fun e w' => e = .returned (.agg (elc (splitE (valD bs)))) ∧ Below w.heap.size w w' := by
 go_enter Tryz.func88, Tryz.ntmps88
 go_wp2_with fail
 have hR0 : RelO w (((w.alloc (.cells z5 58)).alloc (.cells z5 58))) (splitE (valD (bs.take 0))).list := ⟨below2 _ _ _, heap2_0 _ _ _, by
  have h0 : ints .u64 (splitE (valD (bs.take 0))).list = z5 := by simp [valD, splitE, E5.list, ints, z5]
  rw [h0]; exact heap_alloc2_new _ _ _⟩
 obtain ⟨g, off, rfl, hc⟩ := hv (by rw [hlen.out]; decide)
 have hgl : g < w.heap.size := block_lt_of_cell (hc 0 (by rw [hlen.out]; decide))
 go_loopw [10] (fun i wr => ∃ k : Nat, k ≤ 32 ∧ i = .int .i64 k ∧ RelO w wr (splitE (valD (bs.take k))).list) (fun i _ => 32 - (intOf i).toNat)
 case atStart => exact ⟨0, by omega, rfl, hR0⟩
 case round =>
  obtain ⟨k, hk, rfl, hR⟩ := hrel
  clear hR0
  by_cases hlt : k < 32
  ·obtain ⟨V, hV⟩ : ∃ V, V = valD (bs.take k) := ⟨_, rfl⟩
   obtain ⟨c, hcc⟩ : ∃ c, c = bs.getD k 0 := ⟨_, rfl⟩
   have hVl : V < 256 ^ k := by rw [hV]; exact valD_take_lt hb k
   have hcl : c < 256 := by rw [hcc]; exact hb k
   have HV : Hid (valD (bs.take (k + 1)) = V + 256 ^ k * c) := by show _ = _; rw [valD_take_succ, ← hV, ← hcc]
   rw [← hV] at hR
   obtain ⟨h1, h2, h3⟩ := split_step V c k hlt hVl hcl
   rw [← HV.out] at h3
   have cb := (hR.1.cell (p := ⟨g, off + k, none⟩) hgl).trans (hc k (by rw [hlen.out]; omega))
   rw [← hcc] at cb
   obtain ⟨at', hat⟩ : ∃ t, t = 8 * k / 51 := ⟨_, rfl⟩
   obtain ⟨sh, hsh⟩ : ∃ t, t = 8 * k % 51 := ⟨_, rfl⟩
   have iat : 8 * (k : Int) / 51 = (at' : Int) := by omega
   have ish : 8 * (k : Int) % 51 = (sh : Int) := by omega
   have hat5 : at' < 5 := by omega
   have hsh5 : sh < 51 := by omega
   rw [← hat, ← hsh] at h1 h3
   rw [← hat] at h2
   have c1 := cell_ints hR.2.2 at' (by rw [splitE_len]; omega)
   have f1 := free_ints hR.2.2 at'
   obtain ⟨x, hx⟩ : ∃ t, t = (splitE V).list.getD at' 0 := ⟨_, rfl⟩
   rw [← hx] at c1 h1 h3
   have HR1 : Hid (RelO w (wr.setCell ⟨w.heap.size + 1, at', none⟩ (.int .u64 (bits .or .u64 (x : Int) (bits .and .u64 (IntKind.u64.wrap ((c : Int) * 2 ^ sh)) 2251799813685247)))).drew ((splitE V).list.set at' (x + c * 2 ^ sh % 2251799813685248))) := by
    show RelO _ _ _
    rw [or_part x c sh h1 hsh5 hcl]
    exact (hR.set _ _).drew
   have H2 : Hid ((splitE V).list.getD (at' + 1) 0 = 0) := h2
   have H3 : Hid (((splitE V).list.set at' (x + c * 2 ^ sh % 2251799813685248)).set (at' + 1) (c / 2 ^ (51 - sh)) = (splitE (valD (bs.take (k + 1)))).list) := h3
   clear hat hsh hx h1 h2 h3 hV hcc hR
   go_wp2_with fail
   go_region
   generalize (wr.setCell ⟨w.heap.size + 1, at', none⟩ (.int .u64 (bits .or .u64 (x : Int) (bits .and .u64 (IntKind.u64.wrap ((c : Int) * 2 ^ sh)) 2251799813685247)))).drew = w2 at HR1 ⊢
   have hR := HR1.out
   have hl5 : ((splitE V).list.set at' (x + c * 2 ^ sh % 2251799813685248)).length = 5 := by rw [List.length_set]; rfl
   clear HR1 c1 f1 cb
   by_cases h4 : at' + 1 < 5
   ·have c2 := cell_ints hR.2.2 (at' + 1) (by rw [hl5]; omega)
    have f2 := free_ints hR.2.2 (at' + 1)
    have e0 : ((splitE V).list.set at' (x + c * 2 ^ sh % 2251799813685248)).getD (at' + 1) 0 = 0 := by
     rw [List.getD_eq_getElem?_getD, List.getElem?_set_ne (by omega), ← List.getD_eq_getElem?_getD]; exact H2.out
    rw [e0] at c2
    have HR2 : Hid (RelO w (w2.setCell ⟨w.heap.size + 1, at' + 1, none⟩ (.int .u64 (bits .or .u64 0 ((c : Int) / 2 ^ (51 - sh))))).drew (splitE (valD (bs.take (k + 1)))).list) := by
     show RelO _ _ _
     rw [← H3.out, or_zero c (51 - sh) hcl]
     exact (hR.set _ _).drew
    clear hR hl5 e0 hv hc hgl hb
    go_wp2_with fail
    go_region
    go_wp2
    go_roundw
    case rel => exact ⟨k + 1, by omega, by go_num, HR2.out⟩
    case measure => simp [intOf]; omega
   ·have HR2 : Hid (RelO w w2 (splitE (valD (bs.take (k + 1)))).list) := by
     show RelO _ _ _
     rw [← H3.out, List.set_eq_of_length_le (by rw [hl5]; omega)]
     exact hR
    clear hR hl5 hv hc hgl hb
    go_wp2
    go_roundw
    case rel => exact ⟨k + 1, by omega, by go_num, HR2.out⟩
    case measure => simp [intOf]; omega
  ·obtain rfl : k = 32 := by omega
   rw [List.take_of_length_le (by rw [hlen.out]; exact Nat.le_refl _)] at hR
   obtain ⟨rv, hrv⟩ : ∃ r, r = elc (splitE (valD bs)) := ⟨_, rfl⟩
   have hrl : rv.size = 5 := by rw [hrv]; rfl
   have hr1 : rv.all (·.oneCell') = true := by rw [hrv]; exact elc_one _
   obtain ⟨hB, hz2, h5⟩ := hR
   rw [← elc_ints, ← hrv] at h5
   have HRV : Hid (rv = elc (splitE (valD bs))) := hrv
   clear hrv hv hc hgl hb
   go_wp2_with (first
    | (refine wpList_load_row rfl 58 (.tmp 3) rfl _ rfl 58 rv (0, 0) _ h5 Tryz.underlying58 rfl (by rw [hrl]; exact info26) ?_)
    | (refine wpList_store_row rfl 58 (.tmp 2) (.tmp 50) rfl _ rv rfl rfl 58 _ hz2 (by rw [hrl]; exact info26) (by rw [hrl]; rfl) hr1 ?_))
   refine bodyPost_ret (v := .agg rv) ?_ rfl ⟨by rw [HRV.out], setRow_below hB (by omega) _⟩
   exact results_cell_row Tryz.results88 _ _ _ 58 rv (0, 0) _ rfl (setRow_heap _ _ _ _ _ _ hz2) Tryz.underlying58 rfl (by rw [hrl]; exact info26)
end Go.Proofs.YtabgihjffjlfiaaGreatDoor
set_option linter.unusedVariables false
namespace Go.Proofs.YtabgihjffjlfiaaGreatDoor
open Go.RowKit Go.Sort Go.BigFrame
set_option maxRecDepth 100000
set_option maxHeartbeats 4000000
theorem klit23 (d n : Nat) (h : n < 18446744073709551616) : Tryz.prog.keyLits (d + 1) 55 [.int .u64 (n : Int)] = some [.int .u64 (n : Int)] := by
 have hw : (Lit.int .u64 (n : Int)).wf = true := by simp [Lit.wf, IntKind.min, IntKind.max, IntKind.signed, IntKind.bits]; omega
 simp [Program.keyLits, Tryz.underlying55, hw]
theorem klit24 (s : E5) (h : s.wf) : Tryz.prog.keyLits 2 56 (elc s).toList = some [.int .u64 (s.a0 : Int), .int .u64 (s.a1 : Int), .int .u64 (s.a2 : Int), .int .u64 (s.a3 : Int), .int .u64 (s.a4 : Int)] := by
 obtain ⟨s0, s1, s2, s3, s4⟩ := s
 unfold E5.wf at h
 simp only at h
 have c24 : Tryz.prog.cellsOf 56 = 5 := by kernel_rfl
 have c23 : Tryz.prog.cellsOf 55 = 1 := by kernel_rfl
 have e : List.range 5 = [0, 1, 2, 3, 4] := rfl
 unfold Program.keyLits
 simp [Tryz.underlying56, c24, c23, e, elc, klit23 0 s0 (by omega), klit23 0 s1 (by omega), klit23 0 s2 (by omega), klit23 0 s3 (by omega), klit23 0 s4 (by omega)]
theorem run_eq24 (s t : E5) (hs : s.wf) (ht : t.wf) (w : World) : (Op.equalIn 9999 56 (.agg (elc s)) (.agg (elc t))).run Tryz.prog w = .ok (decide (s.list = t.list)) w := by
 have K : EqAt Tryz.prog 9999 56 := run_equalIn_deep 9997 2 56 (by kernel_rfl)
 have c24 : Tryz.prog.cellsOf 56 = 5 := by kernel_rfl
 obtain ⟨r, hr, hiff⟩ := K w 2 2 (.agg (elc s)) (.agg (elc t)) _ _ (by simp [Value.formed, Tryz.underlying56, c24, elc_size]) (by simp [Value.formed, Tryz.underlying56, c24, elc_size]) (klit24 s hs) (klit24 t ht)
 rw [hr]
 congr 1
 rw [Bool.eq_iff_iff, hiff, decide_eq_true_eq]
 simp [E5.list]
 omega
end Go.Proofs.YtabgihjffjlfiaaGreatDoor
set_option linter.unusedVariables false
namespace Go.Proofs.YtabgihjffjlfiaaGreatDoor
open Go.RowKit Go.Sort Go.BigFrame
set_option maxRecDepth 100000
set_option maxHeartbeats 4000000
theorem ret_bool {a b : Bool} (h : a = b) : Ending.returned (.bool a) = .returned (.bool b) := by rw [h]
theorem run_assignO {P : Program} {ρ : Operand → Value} {o : Oper} (x : Operand) (ho : o.op = .assign x) (w : World) : (execOp ρ o).run P w = .ok (.value (ρ x)) w := by
 unfold execOp
 rw [ho]
 rfl
theorem run_eqE {ρ : Operand → Value} {o : Oper} {x y : Operand} {w : World} (s t : E5) (hs : s.wf) (ht : t.wf) (ho : o.op = .binOp .eql 58 x y 58) (hx : ρ x = .agg (elc s)) (hy : ρ y = .agg (elc t)) :
  (execOp ρ o).run Tryz.prog w = .ok (.value (.bool (decide (s.list = t.list)))) w := by
 have h := run_eq24 s t hs ht w
 unfold elc at h
 simp only [execOp, ho, hx, hy]
 simp [go_sem, elc, h]
 by_cases h' : s.list = t.list <;> simp [h']
theorem leastE_wf (a : E5) : (leastE a).wf := splitE_wf _
theorem split_inj {u v : Nat} (hu : u < pp) (hv : v < pp) (h : (splitE u).list = (splitE v).list) : u = v := by
 have h2 : (splitE u).val = (splitE v).val := by
  simp only [E5.list, List.cons.injEq, and_true] at h
  unfold E5.val
  omega
 have := pp_lt
 rw [splitE_val, splitE_val, Nat.mod_eq_of_lt (by omega), Nat.mod_eq_of_lt (by omega)] at h2
 exact h2
theorem least_same (a b : E5) : decide ((leastE a).list = (leastE b).list) = decide (a.val % pp = b.val % pp) := by
 rw [decide_eq_decide]
 constructor
 ·exact split_inj (Nat.mod_lt _ pp_pos) (Nat.mod_lt _ pp_pos)
 ·intro h; unfold leastE; rw [h]
theorem equal13 (a b : E5) (w : World) (ha : a.wf) (hb : b.wf) : Calls Tryz.prog 110 #[.agg (elc a), .agg (elc b)] w fun e w' => e = .returned (.bool (decide (a.val % pp = b.val % pp))) ∧ Below w.heap.size w w' := by
 rw [← least_same]
 have ca := fun w1 => least36 a w1 ha
 have cb := fun w1 => least36 b w1 hb
 have hla := leastE_wf a
 have hlb := leastE_wf b
 obtain ⟨la, hla'⟩ : ∃ l, l = leastE a := ⟨_, rfl⟩
 obtain ⟨lb, hlb'⟩ : ∃ l, l = leastE b := ⟨_, rfl⟩
 rw [← hla'] at ca hla ⊢
 rw [← hlb'] at cb hlb ⊢
 clear hla' hlb'
 have hq := @run_eqE
 obtain ⟨r, hr⟩ : ∃ r, r = decide (la.list = lb.list) := ⟨_, rfl⟩
 have hq := fun ρ o x y w => run_eqE (ρ := ρ) (o := o) (x := x) (y := y) (w := w) la lb hla hlb
 rw [← hr] at hq ⊢
 clear hr
 have h0 : ((w.alloc (.cells (elc a) 58)).alloc (.cells (elc b) 58)).heap[w.heap.size]? = some (.cells (elc a) 58 (0, 0)) := heap2_0 _ _ _
 have h1 : ((w.alloc (.cells (elc a) 58)).alloc (.cells (elc b) 58)).heap[w.heap.size + 1]? = some (.cells (elc b) 58 (0, 0)) := heap_alloc2_new _ _ _
 have hbel : Below w.heap.size w ((w.alloc (.cells (elc a) 58)).alloc (.cells (elc b) 58)) := below2 _ _ _
 have hsa : (elc a).size = 5 := rfl
 have hsb : (elc b).size = 5 := rfl
 obtain ⟨va, hva⟩ : ∃ l, l = elc a := ⟨_, rfl⟩
 obtain ⟨vb, hvb⟩ : ∃ l, l = elc b := ⟨_, rfl⟩
 rw [← hva] at ca hsa
 rw [← hvb] at cb hsb
 rw [← hva, ← hvb] at h0 h1 hbel ⊢
 clear hva hvb
 go_enter Tryz.func110, Tryz.ntmps110
 go_wp2_with fail
 generalize ((w.alloc (.cells va 58)).alloc (.cells vb 58)) = u at h0 h1 hbel ⊢
 refine wp_region_quiet_below (by kernel_rfl) (by kernel_rfl) ?_
 show wpQuiet _ _ (Cls u) (fun a' => ∀ w', Cls u w' → _) _ _
 refine wpQuiet_load_row (some 5) rfl rfl 58 (.tmp 2) rfl _ rfl 58 va (0, 0) _ (fun _ hw => hw.heap h0) Tryz.underlying58 rfl (by rw [hsa]; exact info26) ?_
 simp only [Act.put, lA, lS, lZ]
 refine wpQuiet_call (some 6) (.agg (elc la)) 93 #[.agg va] rfl rfl (fun _ => by kernel_rfl) (fun w1 hw => cls_call hw (ca w1)) ?_
 simp only [Act.put, lA, lS, lZ]
 refine wpQuiet_load_row (some 7) rfl rfl 58 (.tmp 3) rfl _ rfl 58 vb (0, 0) _ (fun _ hw => hw.heap h1) Tryz.underlying58 rfl (by rw [hsb]; exact info26) ?_
 simp only [Act.put, lA, lS, lZ]
 refine wpQuiet_call (some 8) (.agg (elc lb)) 93 #[.agg vb] rfl rfl (fun _ => by kernel_rfl) (fun w1 hw => cls_call hw (cb w1)) ?_
 simp only [Act.put, lA, lS, lZ]
 refine wpQuiet_run (some 9) (.bool r) rfl rfl (fun w1 _ => hq _ _ (.tmp 6) (.tmp 8) w1 rfl rfl rfl) ?_
 simp only [Act.put, lA, lS, lZ]
 refine wpQuiet_run (some 4) (.bool r) rfl rfl (fun w1 _ => run_assignO (.tmp 9) rfl _) ?_
 simp only [Act.put, lA, lS, lZ]
 refine wpQuiet_nil ?_
 intro w1 hw
 go_wp2
 go_ret
 exact ⟨rfl, hbel.trans (hw.below.mono hbel.size)⟩
theorem field26 (s0 s1 s2 s3 s4 : Nat) (w : World) : (Instr.field 58 (.agg #[.int .u64 (s0 : Int), .int .u64 (s1 : Int), .int .u64 (s2 : Int), .int .u64 (s3 : Int), .int .u64 (s4 : Int)]) 0).run Tryz.prog w = .ok (.agg #[.int .u64 (s0 : Int), .int .u64 (s1 : Int), .int .u64 (s2 : Int), .int .u64 (s3 : Int), .int .u64 (s4 : Int)]) w := by kernel_rfl
theorem odd27' (x0 x1 x2 x3 x4 s0 s1 s2 s3 s4 : Nat) (w : World) (hle : ∀ w1, Calls Tryz.prog 93 #[.agg #[.int .u64 (x0 : Int), .int .u64 (x1 : Int), .int .u64 (x2 : Int), .int .u64 (x3 : Int), .int .u64 (x4 : Int)]] w1 fun e w' => e = .returned (.agg #[.int .u64 (s0 : Int), .int .u64 (s1 : Int), .int .u64 (s2 : Int), .int .u64 (s3 : Int), .int .u64 (s4 : Int)]) ∧ Below w1.heap.size w1 w') (h0 : s0 < 2251799813685248) :
  Calls Tryz.prog 68 #[.agg #[.int .u64 (x0 : Int), .int .u64 (x1 : Int), .int .u64 (x2 : Int), .int .u64 (x3 : Int), .int .u64 (x4 : Int)]] w fun e w' => e = .returned (.bool (decide (s0 % 2 = 1))) ∧ Below w.heap.size w w' := by
 have hix := idx24 s0 s1 s2 s3 s4 0 (by decide)
 have hfi := field26 s0 s1 s2 s3 s4
 have ha : bits .and .u64 (s0 : Int) 1 = ((s0 % 2 : Nat) : Int) := by
  have := bits_and_u64_nat s0 1 (by omega) (by decide)
  rw [Nat.and_one_is_mod] at this
  exact this
 simp only [List.getD_cons_zero, Int.natCast_zero] at hix
 go_enter Tryz.func68, Tryz.ntmps68
 go_wp2_with fail
 refine (hle _).mono ?_
 rintro e w1 ⟨rfl, hb1⟩
 have hb : Below w.heap.size w w1 := (below1 _ _).trans (hb1.mono (by simp))
 clear hb1 hle
 go_wp2
 go_ret
 refine ⟨ret_bool (b := decide (s0 % 2 = 1)) ?_, hb⟩
 rw [Bool.eq_iff_iff]
 simp
 omega
theorem odd27 (a : E5) (w : World) (ha : a.wf) : Calls Tryz.prog 68 #[.agg (elc a)] w fun e w' => e = .returned (.bool (decide (a.val % pp % 2 = 1))) ∧ Below w.heap.size w w' := by
 have h := odd27' a.a0 a.a1 a.a2 a.a3 a.a4 _ _ _ _ _ w (fun w1 => least36 a w1 ha) (Nat.mod_lt _ (by decide))
 have e : (leastE a).a0 % 2 = a.val % pp % 2 := by
  unfold leastE splitE
  simp only
  omega
 rw [← e]
 exact h
def wordE (n : Nat) : E5 := ⟨n % 2251799813685248, n / 2251799813685248, 0, 0, 0⟩
theorem wordE_wf {n : Nat} (h : n < 18446744073709551616) : (wordE n).wf := by unfold wordE E5.wf; simp only; omega
theorem wordE_val (n : Nat) : (wordE n).val = n := by unfold wordE E5.val; simp only; omega
theorem zeroE_wf : zeroE.wf := by unfold zeroE E5.wf; simp
theorem int17n (n : Nat) (w : World) (h0 : 0 < n) (h : n ≤ 9223372036854775808) :
  Calls Tryz.prog 89 #[.int .i64 (-(n : Int))] w fun e w' => e = .returned (.agg (elc (subE zeroE (wordE n)))) ∧ Below w.heap.size w w' := by
 have hneg : IntKind.u64.wrap (-IntKind.u64.wrap (-(n : Int))) = (n : Int) := by rw [wrapm, wrapm]; omega
 have hc := fun w1 => ofWord37 n w1 (by omega)
 have hs := fun w1 => sub20 zeroE (wordE n) w1 zeroE_wf (wordE_wf (by omega))
 rw [elc_zero, z5] at hs
 change ∀ w1, Calls Tryz.prog 109 _ w1 fun e w' => e = .returned (.agg (elc (wordE n))) ∧ _ at hc
 obtain ⟨rv, hrv⟩ : ∃ r, r = elc (subE zeroE (wordE n)) := ⟨_, rfl⟩
 have hrl : rv.size = 5 := by rw [hrv]; rfl
 have hr1 : rv.all (·.oneCell') = true := by rw [hrv]; exact elc_one _
 rw [← hrv] at hs ⊢
 clear hrv
 go_enter Tryz.func89, Tryz.ntmps89
 go_wp2_with fail
 refine (hc _).mono ?_
 rintro e w1 ⟨rfl, hb1⟩
 go_wp2_with fail
 refine (hs _).mono ?_
 rintro e w2 ⟨rfl, hb2⟩
 have hb3 := hb1.trans (hb2.mono hb1.size)
 have hb : Below w.heap.size w w2 := (below1 _ _).trans (hb3.mono (by simp))
 have hz : w2.heap[w.heap.size]? = some (.cells z5 58 (0, 0)) := block_below hb3 (by simp) (heap_alloc_new _ _)
 clear hb1 hb2 hb3 hc hs
 go_wp2_with (refine wpList_store_row rfl 58 (.tmp 2) (.tmp 10) rfl _ rv rfl rfl 58 _ hz (by rw [hrl]; exact info26) (by rw [hrl]; rfl) hr1 ?_)
 refine bodyPost_ret (v := .agg rv) ?_ rfl ⟨rfl, setRow_below hb (by omega) _⟩
 exact results_cell_row Tryz.results89 _ _ _ 58 rv (0, 0) _ rfl (setRow_heap _ _ _ _ _ _ hz) Tryz.underlying58 rfl (by rw [hrl]; exact info26)
theorem int17p (n : Nat) (w : World) (h : n ≤ 9223372036854775807) :
  Calls Tryz.prog 89 #[.int .i64 (n : Int)] w fun e w' => e = .returned (.agg (elc (wordE n))) ∧ Below w.heap.size w w' := by
 have hc := fun w1 => ofWord37 n w1 (by omega)
 change ∀ w1, Calls Tryz.prog 109 _ w1 fun e w' => e = .returned (.agg (elc (wordE n))) ∧ _ at hc
 obtain ⟨rv, hrv⟩ : ∃ r, r = elc (wordE n) := ⟨_, rfl⟩
 have hrl : rv.size = 5 := by rw [hrv]; rfl
 have hr1 : rv.all (·.oneCell') = true := by rw [hrv]; exact elc_one _
 rw [← hrv] at hc ⊢
 clear hrv
 go_enter Tryz.func89, Tryz.ntmps89
 go_wp2_with fail
 refine (hc _).mono ?_
 rintro e w1 ⟨rfl, hb1⟩
 have hb : Below w.heap.size w w1 := (below1 _ _).trans (hb1.mono (by simp))
 have hz : w1.heap[w.heap.size]? = some (.cells z5 58 (0, 0)) := block_below hb1 (by simp) (heap_alloc_new _ _)
 clear hb1 hc
 go_wp2_with (refine wpList_store_row rfl 58 (.tmp 2) (.tmp 13) rfl _ rv rfl rfl 58 _ hz (by rw [hrl]; exact info26) (by rw [hrl]; rfl) hr1 ?_)
 refine bodyPost_ret (v := .agg rv) ?_ rfl ⟨rfl, setRow_below hb (by omega) _⟩
 exact results_cell_row Tryz.results89 _ _ _ 58 rv (0, 0) _ rfl (setRow_heap _ _ _ _ _ _ hz) Tryz.underlying58 rfl (by rw [hrl]; exact info26)
def intE (n : Int) : E5 := if n < 0 then subE zeroE (wordE n.natAbs) else wordE n.natAbs
theorem intE_wf {n : Int} (h0 : -9223372036854775808 ≤ n) (h1 : n ≤ 9223372036854775807) : (intE n).wf := by
 unfold intE
 split
 ·exact subE_wf zeroE_wf (wordE_wf (by omega))
 ·exact wordE_wf (by omega)
theorem int17 (n : Int) (w : World) (h0 : -9223372036854775808 ≤ n) (h1 : n ≤ 9223372036854775807) :
  Calls Tryz.prog 89 #[.int .i64 n] w fun e w' => e = .returned (.agg (elc (intE n))) ∧ Below w.heap.size w w' := by
 unfold intE
 split
 ·have := int17n n.natAbs w (by omega) (by omega)
  rwa [show -(n.natAbs : Int) = n by omega] at this
 ·have := int17p n.natAbs w (by omega)
  rwa [show (n.natAbs : Int) = n by omega] at this
end Go.Proofs.YtabgihjffjlfiaaGreatDoor
set_option linter.unusedVariables false
namespace Go.Proofs.YtabgihjffjlfiaaGreatDoor
open Go.RowKit Go.Sort Go.BigFrame
set_option maxRecDepth 100000
set_option maxHeartbeats 2000000
def strOf (bs : List Nat) : ByteArray := bs.foldl (fun r n => r.push (UInt8.ofNat n)) ByteArray.empty
theorem strOf_fold (bs : List Nat) : (bs.map fun (x : Nat) => (x : Int)).foldl (fun r n => r.push (UInt8.ofNat n.toNat)) ByteArray.empty = strOf bs := by
 unfold strOf
 rw [List.foldl_map]; rfl
theorem strOf_data (bs : List Nat) : ∀ r : ByteArray, (bs.foldl (fun r n => r.push (UInt8.ofNat n)) r).data.toList = r.data.toList ++ bs.map UInt8.ofNat := by
 induction bs with
 | nil => intro r; simp
 | cons b t ih => intro r; rw [List.foldl_cons, ih]; simp [ByteArray.push]
theorem strOf_inj {x y : List Nat} (hx : ∀ j, x.getD j 0 < 256) (hy : ∀ j, y.getD j 0 < 256) (h : strOf x = strOf y) : x = y := by
 have e1 := strOf_data x ByteArray.empty
 have e2 := strOf_data y ByteArray.empty
 have h' : (strOf x).data.toList = (strOf y).data.toList := by rw [h]
 unfold strOf at h'
 rw [e1, e2] at h'
 have h2 : x.map UInt8.ofNat = y.map UInt8.ofNat := by simpa using h'
 have hl : x.length = y.length := by simpa using congrArg List.length h2
 apply List.ext_getElem hl
 intro i h1 h3
 have h4 : (x.map UInt8.ofNat)[i]'(by simpa using h1) = (y.map UInt8.ofNat)[i]'(by simpa using h3) := by simp only [h2]
 simp only [List.getElem_map] at h4
 have a := hx i
 have b := hy i
 simp [h1] at a
 simp [h3] at b
 have := congrArg UInt8.toNat h4
 simp at this
 omega
theorem strOf_eq {x y : List Nat} (hx : ∀ j, x.getD j 0 < 256) (hy : ∀ j, y.getD j 0 < 256) : ((strOf x).toList == (strOf y).toList) = decide (x = y) := by
 rw [Bool.eq_iff_iff, beq_iff_eq, decide_eq_true_eq]
 constructor
 ·intro h
  refine strOf_inj hx hy ?_
  rw [Lib.toList_data, Lib.toList_data] at h
  exact WideShapes.bytes_inj h
 ·rintro rfl; rfl
theorem loadCells_view {w : World} {b off : Nat} {bs : List Nat} (h : BytesAt w b off bs) : (loadCells ⟨b, off, none⟩ bs.length).run Tryz.prog w = .ok ((bs.map fun (x : Nat) => (x : Int)).map (Value.int .u8)).toArray w := by
 have := run_loadCells_list (P := Tryz.prog) w ⟨b, off, none⟩ ((bs.map fun (x : Nat) => (x : Int)).map (Value.int .u8)) (fun j v hv => by
  have hj : j < bs.length := by
   by_cases h : j < bs.length
   ·exact h
   ·rw [List.getElem?_eq_none (by simp; omega)] at hv; cases hv
  rw [Addr.add_mid, h j hj, ← hv]; simp [hj])
 simpa using this
theorem toString_view {w : World} {a : Option Addr} {len cap : Nat} {bs : List Nat} (hl : bs.length = len) (h : View w a bs) : (convert 22 9 (.slice a len cap)).run Tryz.prog w = .ok (.string (strOf bs)) w := by
 rw [run_convert_bytes_string w 22 9 5 a len cap Tryz.underlying22 Tryz.underlying5 Tryz.underlying9]
 cases a with
 | none =>
  have : bs = [] := by
   cases bs with
   | nil => rfl
   | cons x r => obtain ⟨b, off, h', _⟩ := h (by simp); cases h'
  subst this; rfl
 | some ad =>
  rw [run_bytesToString w ad len cap (bs.map fun (x : Nat) => (x : Int)) ?_, strOf_fold]
  by_cases hp : 0 < bs.length
  ·obtain ⟨b, off, h', hb⟩ := h hp
   cases h'
   rw [← hl]; exact loadCells_view hb
  ·have : bs = [] := List.length_eq_zero_iff.1 (by omega)
   subst this; subst hl; rfl
theorem equal35 (a : Option Addr) (la ca : Nat) (x : List Nat) (b : Option Addr) (lb cb : Nat) (y : List Nat) (w : World) (hx : x.length = la) (hy : y.length = lb) (ha : View w a x) (hb : View w b y) (hx2 : ∀ j, x.getD j 0 < 256) (hy2 : ∀ j, y.getD j 0 < 256) :
  Calls Tryz.prog 71 #[.slice a la ca, .slice b lb cb] w fun e w' => e = .returned (.bool (decide (x = y))) ∧ w' = w := by
 have h1 := toString_view (cap := ca) hx ha
 have h2 := toString_view (cap := cb) hy hb
 have HE : Hid (((strOf x).toList == (strOf y).toList) = decide (x = y)) := strOf_eq hx2 hy2
 clear hx hy
 go_enter Tryz.func71, Tryz.ntmps71
 go_wp2
 go_ret
 refine ⟨?_, rfl⟩
 rw [← HE.out]; rfl
theorem View.take {w : World} {a : Option Addr} {bs : List Nat} (h : View w a bs) (n : Nat) : View w a (bs.take n) := fun hp => by
 obtain ⟨b, off, rfl, hb⟩ := h (by simp at hp; omega)
 refine ⟨b, off, rfl, fun i hi => ?_⟩
 have hi' : i < n ∧ i < bs.length := by simp at hi; omega
 rw [show (bs.take n).getD i 0 = bs.getD i 0 by simp [hi'.1]]
 exact hb i hi'.2
theorem results_cell_tmp {P : Program} {fn : Func} {p q : Tmp} {ty : TypeId} (h : fn.results = #[.cell p ty, .tmp q]) (tmps : Array Value) (w : World) (g : Nat) (t : TypeId) (cs : Array Value) (fr : Nat × Nat) (d : TypeDesc) (v : Value)
  (hp : tmps.getD p undef = .pointer (some ⟨g, 0, none⟩)) (hq : tmps.getD q undef = v) (hg : w.heap[g]? = some (.cells cs t fr))
  (hu : P.underlying ty = some d) (hd : (match d with | .struct _ | .array _ _ => true | _ => false) = true) (hi : (P.info? ty).map (·.size) = some cs.size) :
  (results fn tmps).run P w = .ok (.tuple #[.agg cs, v]) w := by
 have hp' : tmps[p]?.getD undef = .pointer (some ⟨g, 0, none⟩) := by simpa using hp
 have hq' : tmps[q]?.getD undef = v := by simpa using hq
 simp [results, h, hp', hq', asAddr, run_loadVar_row w g t ty cs fr d hg hu hd hi]
end Go.Proofs.YtabgihjffjlfiaaGreatDoor
set_option linter.unusedVariables false
namespace Go.Proofs.YtabgihjffjlfiaaGreatDoor
open Go.RowKit Go.Sort Go.BigFrame
set_option maxRecDepth 100000
set_option maxHeartbeats 2000000
theorem read9' (a : Option Addr) (cap : Nat) (bs : List Nat) (w : World) (s0 s1 s2 s3 s4 U : Nat) (hlen : Hid (bs.length = 32)) (hcap : 32 ≤ cap) (hcap2 : cap ≤ 9223372036854775807) (hb : Dig bs) (hv : View w a bs)
  (hs : Hid (splitE (valD bs) = ⟨s0, s1, s2, s3, s4⟩))
  (hby : ∀ w1, Calls Tryz.prog 78 #[.agg #[.int .u64 (s0 : Int), .int .u64 (s1 : Int), .int .u64 (s2 : Int), .int .u64 (s3 : Int), .int .u64 (s4 : Int)]] w1 fun e w' => ∃ g, e = .returned (.slice (some ⟨g, 0, none⟩) 32 32) ∧ w1.heap.size ≤ g ∧ Below w1.heap.size w1 w' ∧ w'.heap[g]? = some (.cells (ints .u8 (digs 32 U)) 5 (0, 0))) :
  Calls Tryz.prog 66 #[.slice a 32 cap] w fun e w' => e = .returned (.tuple (if digs 32 U = bs then #[.agg #[.int .u64 (s0 : Int), .int .u64 (s1 : Int), .int .u64 (s2 : Int), .int .u64 (s3 : Int), .int .u64 (s4 : Int)], .int .i64 0] else #[.agg z5, .int .i64 2])) ∧ Below w.heap.size w w' := by
 have hof := fun w1 (h : Below w.heap.size w w1) => ofBytes34 a cap bs w1 hlen hcap hcap2 hb (hv.below h)
 rw [hs.out] at hof
 simp only [elc] at hof
 have h' : ((32 : Int) != 32) = false := rfl
 go_enter Tryz.func66, Tryz.ntmps66
 go_wp2_with fail
 refine (hof _ (below1 _ _)).mono ?_
 rintro e w1 ⟨rfl, hb1⟩
 have hB : Below w.heap.size w w1 := (below1 _ _).trans (hb1.mono (by simp))
 have hz : w1.heap[w.heap.size]? = some (.cells z5 58 (0, 0)) := block_below hb1 (by simp) (heap_alloc_new _ _)
 clear hb1 hof
 go_wp2_with fail
 refine (hby _).mono ?_
 rintro e w2 ⟨g2, rfl, hg2, hb2, h2⟩
 have hB2 : Below w.heap.size w w2 := (hB.alloc hB.size _).trans (hb2.mono (by have := hB.size; simp; omega))
 have hz2 : w2.heap[w.heap.size]? = some (.cells z5 58 (0, 0)) := block_below hb2 (by have := lt_of_heap hz; simp; omega) ((heap_alloc_old _ _ (lt_of_heap hz)).trans hz)
 have hs2 : w2.heap[w1.heap.size]? = some (.cells #[.int .u64 (s0 : Int), .int .u64 (s1 : Int), .int .u64 (s2 : Int), .int .u64 (s3 : Int), .int .u64 (s4 : Int)] 58 (0, 0)) := block_below hb2 (by simp) (heap_alloc_new _ _)
 have hE := equal35 (some ⟨g2, 0, none⟩) 32 32 (digs 32 U) a 32 cap bs w2 (digs_len _ _) hlen.out (fun _ => ⟨g2, 0, rfl, bytes_row h2⟩) (hv.below hB2) (digs_dig _ _) hb
 clear hb2 hby hB hz h2 hv
 go_wp2_with fail
 refine hE.mono ?_
 intro e w3 ⟨he, hw3⟩
 subst he
 subst hw3
 clear hE
 by_cases hq : digs 32 U = bs
 ·rw [decide_eq_true hq]
  have HQ : Hid (digs 32 U = bs) := hq
  clear hq
  have hz5 : z5.size = 5 := rfl
  go_wp2_with (first
   | (refine wpList_load_row rfl 58 (.tmp 4) rfl _ rfl 58 _ (0, 0) _ hs2 Tryz.underlying58 rfl info26 ?_)
   | (refine wpList_store_row rfl 58 (.tmp 2) (.tmp 17) rfl _ #[.int .u64 (s0 : Int), .int .u64 (s1 : Int), .int .u64 (s2 : Int), .int .u64 (s3 : Int), .int .u64 (s4 : Int)] rfl rfl 58 _ hz2 info26 rfl (by simp [Value.oneCell']) ?_))
  refine bodyPost_ret (v := .tuple #[.agg #[.int .u64 (s0 : Int), .int .u64 (s1 : Int), .int .u64 (s2 : Int), .int .u64 (s3 : Int), .int .u64 (s4 : Int)], .int .i64 0]) ?_ rfl ⟨rfl, setRow_below hB2 (by omega) _⟩
  exact results_cell_tmp Tryz.results66 _ _ _ 58 _ (0, 0) _ _ rfl rfl (setRow_heap _ _ _ _ _ _ hz2) Tryz.underlying58 rfl info26
 ·rw [decide_eq_false hq]
  have HQ : Hid (¬ digs 32 U = bs) := hq
  clear hq
  go_wp2_with (refine wpList_store_row rfl 58 (.tmp 2) (.tmp 16) rfl _ z5 rfl rfl 58 _ hz2 info26 rfl (by simp [Value.oneCell', z5]) ?_)
  refine bodyPost_ret (v := .tuple #[.agg z5, .int .i64 2]) ?_ rfl ⟨rfl, setRow_below hB2 (by omega) _⟩
  exact results_cell_tmp Tryz.results66 _ _ _ 58 _ (0, 0) _ _ rfl rfl (setRow_heap _ _ _ _ _ _ hz2) Tryz.underlying58 rfl info26
theorem read_cond {bs : List Nat} (hl : bs.length = 32) (hb : Dig bs) : digs 32 ((splitE (valD bs)).val % pp) = bs ↔ valD bs < pp := by
 have hV := valD_lt hb
 rw [hl] at hV
 rw [splitE_val]
 obtain ⟨V, hVe⟩ : ∃ V, V = valD bs := ⟨_, rfl⟩
 have hd := digs_valD hb
 rw [hl, ← hVe] at hd
 rw [← hVe] at hV ⊢
 constructor
 ·intro h
  have h2 : valD (digs 32 (V % 57896044618658097711785492504343953926634992332820282019728792003956564819968 % pp)) = V := by rw [h, ← hVe]
  have hp := pp_lt
  have h3 : V % 57896044618658097711785492504343953926634992332820282019728792003956564819968 % pp < pp := Nat.mod_lt _ pp_pos
  rw [valD_digs_lt (Nat.lt_trans h3 (by decide))] at h2
  omega
 ·intro h
  have hp := pp_lt
  rw [Nat.mod_eq_of_lt (a := V) (by omega), Nat.mod_eq_of_lt h, hd]
theorem read9 (a : Option Addr) (cap : Nat) (bs : List Nat) (w : World) (hlen : bs.length = 32) (hcap : 32 ≤ cap) (hcap2 : cap ≤ 9223372036854775807) (hb : Dig bs) (hv : View w a bs) :
  Calls Tryz.prog 66 #[.slice a 32 cap] w fun e w' => e = .returned (.tuple (if valD bs < pp then #[.agg (elc (splitE (valD bs))), .int .i64 0] else #[.agg (elc zeroE), .int .i64 2])) ∧ Below w.heap.size w w' := by
 have h := read9' a cap bs w _ _ _ _ _ ((splitE (valD bs)).val % pp) hlen hcap hcap2 hb hv rfl (fun w1 => bytes15 (splitE (valD bs)) w1 (splitE_wf _))
 simp only [read_cond hlen hb] at h
 exact h
end Go.Proofs.YtabgihjffjlfiaaGreatDoor
set_option linter.unusedVariables false
namespace Go.Proofs.YtabgihjffjlfiaaGreatDoor
open Go.RowKit Go.Sort Go.BigFrame
set_option maxRecDepth 100000
set_option maxHeartbeats 2000000
def RelP (w wr : World) (g : Nat) (a : E5) (N : Nat) : Prop :=
 ∃ pw : E5, pw.wf ∧ pw.val % pp = a.val ^ N % pp ∧ Below w.heap.size w wr ∧ w.heap.size + 1 < g ∧ wr.heap[w.heap.size]? = some (.cells (elc a) 58 (0, 0)) ∧ wr.heap[w.heap.size + 1]? = some (.cells z5 58 (0, 0)) ∧ wr.heap[g]? = some (.cells (elc pw) 58 (0, 0))
theorem pow_dbl (a N p : Nat) {x y : Nat} (h : x % p = a ^ N % p) (h2 : y % p = x * x % p) : y % p = a ^ (2 * N) % p := by
 rw [h2, Nat.mul_mod, h, ← Nat.mul_mod, Nat.two_mul, Nat.pow_add]
theorem pow_one (a N p : Nat) {x y : Nat} (h : x % p = a ^ N % p) (h2 : y % p = x * a % p) : y % p = a ^ (N + 1) % p := by
 rw [h2, Nat.mul_mod, h, ← Nat.mul_mod, Nat.pow_succ]
theorem and1_8 (x : Nat) (h : x < 256) : bits .and .u8 (x : Int) 1 = ((x % 2 : Nat) : Int) := by
 have : ∀ y < 256, bits .and .u8 ((y : Nat) : Int) 1 = ((y % 2 : Nat) : Int) := by decide
 exact this x h
theorem int1_pow (a : Nat) : (intE 1).val % pp = a ^ 0 % pp := by
 rw [Nat.pow_zero]; decide
theorem RelP.on {w wr w2 : World} {g : Nat} {a : E5} {pw : E5} (h : wr.heap[g]? = some (.cells (elc pw) 58 (0, 0))) (hB : Below w.heap.size w wr) (hb : Below wr.heap.size wr w2) : Below w.heap.size w w2 ∧ w2.heap[g]? = some (.cells (elc pw) 58 (0, 0)) :=
 ⟨hB.trans (hb.mono hB.size), block_below hb (lt_of_heap h) h⟩
theorem bit_step (c t : Nat) : c / 2 ^ t = 2 * (c / 2 ^ (t + 1)) + c / 2 ^ t % 2 := by
 rw [Nat.pow_succ, ← Nat.div_div_eq_div_mul]; omega
theorem drop_val (l : List Nat) (j : Nat) : valD (l.drop j) = l.getD j 0 + 256 * valD (l.drop (j + 1)) := by
 by_cases h : j < l.length
 ·rw [List.drop_eq_getElem_cons h, valD]; simp [h]
 ·rw [List.drop_of_length_le (by omega), List.drop_of_length_le (by omega), List.getD_eq_getElem?_getD, List.getElem?_eq_none (by omega)]; rfl
theorem pow30 (a : E5) (ad : Option Addr) (len cap : Nat) (bs : List Nat) (w : World) (ha : a.wf) (hlen : Hid (bs.length = len)) (hcap : len ≤ cap) (hcap2 : cap ≤ 9223372036854775807) (h64 : len ≤ 64) (hb : Dig bs) (hv : View w ad bs) :
  Calls Tryz.prog 95 #[.agg (elc a), .slice ad len cap] w fun e w' => ∃ r : E5, r.wf ∧ r.val % pp = a.val ^ valD bs % pp ∧ e = .returned (.agg (elc r)) ∧ Below w.heap.size w w' := by
 have h1 := fun w1 => int17 1 w1 (by decide) (by decide)
 have hmi : ¬ (64 < (len : Int)) := by omega
 have hwf1 : Hid (intE 1).wf := intE_wf (by decide) (by decide)
 have hi1 : Hid ((intE 1).val % pp = a.val ^ 0 % pp) := int1_pow _
 obtain ⟨va, hva⟩ : ∃ l, l = elc a := ⟨_, rfl⟩
 have HVA : Hid (va = elc a) := hva
 have hsa : va.size = 5 := by rw [hva]; rfl
 rw [← hva]
 clear hva
 go_enter Tryz.func95, Tryz.ntmps95
 go_wp2_with fail
 refine (h1 _).mono ?_
 rintro e w1 ⟨rfl, hb1⟩
 have hB : Below w.heap.size w w1 := (below2 _ _ _).trans (hb1.mono (by simp; omega))
 have hx : w1.heap[w.heap.size]? = some (.cells va 58 (0, 0)) := block_below hb1 (by simp; omega) (heap2_0 _ _ _)
 have hz : w1.heap[w.heap.size + 1]? = some (.cells z5 58 (0, 0)) := block_below hb1 (by simp) (heap_alloc2_new _ _ _)
 clear hb1 h1
 have hal : (w1.alloc (.cells #[.int .u64 0, .int .u64 0, .int .u64 0, .int .u64 0, .int .u64 0] 58)).heap[w1.heap.size]? = some (.cells #[.int .u64 0, .int .u64 0, .int .u64 0, .int .u64 0, .int .u64 0] 58 (0, 0)) := heap_alloc_new _ _
 obtain ⟨e1, he1⟩ : ∃ e, e = intE 1 := ⟨_, rfl⟩
 rw [← he1] at hwf1 hi1 ⊢
 clear he1
 go_wp2_with (refine wpList_store_row rfl 58 (.tmp 5) (.tmp 8) rfl _ (elc e1) rfl rfl 58 _ hal info26 rfl (elc_one _) ?_)
 have hR0 : Hid (RelP w ((w1.alloc (.cells #[.int .u64 0, .int .u64 0, .int .u64 0, .int .u64 0, .int .u64 0] 58)).setRow w1.heap.size (elc e1)) w1.heap.size a (valD (bs.drop len))) := by
  have hg := lt_of_heap hz
  refine ⟨e1, hwf1.out, ?_, setRow_below (hB.alloc hB.size _) hB.size _, hg, ?_, ?_, setRow_heap _ _ _ _ _ _ hal⟩
  ·rw [List.drop_of_length_le (by rw [hlen.out]; exact Nat.le_refl _)]; exact hi1.out
  ·rw [← HVA.out]; exact (setRow_other _ _ _ _ (by omega)).trans ((heap_alloc_old _ _ (by omega)).trans hx)
  ·exact (setRow_other _ _ _ _ (by omega)).trans ((heap_alloc_old _ _ hg).trans hz)
 generalize ((w1.alloc (.cells #[.int .u64 0, .int .u64 0, .int .u64 0, .int .u64 0, .int .u64 0] 58)).setRow w1.heap.size (elc e1)) = u0 at hR0 ⊢
 clear hal hz hx hB
 generalize w1.heap.size = g at hR0 ⊢
 clear hwf1 hi1
 go_loopw [6] (fun i wr => ∃ j : Nat, j ≤ len ∧ i = .int .i64 ((j : Int) - 1) ∧ RelP w wr g a (valD (bs.drop j))) (fun i _ => (intOf i + 1).toNat)
 case atStart => exact ⟨len, Nat.le_refl _, rfl, hR0.out⟩
 case round =>
  obtain ⟨j, hj, rfl, hR⟩ := hrel
  clear hR0
  by_cases hj0 : j = 0
  ·subst hj0
   obtain ⟨pw, hpw, hpe, hB, hg, hx, hz, hp⟩ := hR
   have HPE : Hid (pw.val % pp = a.val ^ valD (bs.drop 0) % pp) := hpe
   clear hpe
   go_wp2_with (first
    | (refine wpList_load_row rfl 58 (.tmp 5) rfl _ rfl 58 (elc pw) (0, 0) _ hp Tryz.underlying58 rfl info26 ?_)
    | (refine wpList_store_row rfl 58 (.tmp 4) (.tmp 35) rfl _ (elc pw) rfl rfl 58 _ hz info26 rfl (elc_one _) ?_))
   refine bodyPost_ret (v := .agg (elc pw)) ?_ rfl ⟨pw, hpw, HPE.out, rfl, setRow_below hB (by omega) _⟩
   exact results_cell_row Tryz.results95 _ _ _ 58 _ (0, 0) _ rfl (setRow_heap _ _ _ _ _ _ hz) Tryz.underlying58 rfl info26
  ·obtain ⟨i, rfl⟩ : ∃ i, j = i + 1 := ⟨j - 1, by omega⟩
   have eI : (((i + 1 : Nat) : Int) - 1) = (i : Int) := by omega
   rw [eI]
   obtain ⟨gx, off, rfl, hc⟩ := hv (by rw [hlen.out]; omega)
   have hci := hc i (by rw [hlen.out]; omega)
   have hgx := block_lt_of_cell hci
   obtain ⟨c, hcc⟩ : ∃ c, c = bs.getD i 0 := ⟨_, rfl⟩
   have hcl : c < 256 := by rw [hcc]; exact hb i
   rw [← hcc] at hci
   have HD : Hid (valD (bs.drop i) = c + 256 * valD (bs.drop (i + 1))) := by show _ = _; rw [hcc]; exact drop_val bs i
   obtain ⟨E, hE⟩ : ∃ E, E = valD (bs.drop (i + 1)) := ⟨_, rfl⟩
   rw [← hE] at HD hR
   clear hcc hE hc eI
   have hR0 : RelP w wr g a (E * 2 ^ (8 - 8) + c / 2 ^ 8) := by
    rw [Nat.div_eq_of_lt hcl, Nat.sub_self, Nat.pow_zero, Nat.mul_one, Nat.add_zero]; exact hR
   clear hR
   go_wp2_with fail
   go_loopw [7] (fun b wr => ∃ t : Nat, t ≤ 8 ∧ b = .int .i64 ((t : Int) - 1) ∧ RelP w wr g a (E * 2 ^ (8 - t) + c / 2 ^ t)) (fun b _ => (intOf b + 1).toNat)
   case atStart => exact ⟨8, Nat.le_refl _, rfl, hR0⟩
   case round =>
    obtain ⟨t, ht, rfl, hR⟩ := hrel
    clear hR0
    by_cases ht0 : t = 0
    ·subst ht0
     have HR : Hid (RelP w wr g a (valD (bs.drop i))) := by
      show RelP _ _ _ _ _
      rw [HD.out]
      have e : E * 2 ^ (8 - 0) + c / 2 ^ 0 = c + 256 * E := by simp; omega
      rw [← e]; exact hR
     clear hR
     go_wp2
     go_roundw
     case rel => exact ⟨i, by omega, rfl, HR.out⟩
     case measure => simp [intOf]
    ·obtain ⟨b, rfl⟩ : ∃ b, t = b + 1 := ⟨t - 1, by omega⟩
     have eB : (((b + 1 : Nat) : Int) - 1) = (b : Int) := by omega
     rw [eB]
     clear eB
     obtain ⟨pw, hpw, hpe, hB, hg, hx, hz, hp⟩ := hR
     have hci2 := (hB.cell (p := ⟨gx, off + i, none⟩) hgx).trans hci
     obtain ⟨N, hN⟩ : ∃ N, N = E * 2 ^ (8 - (b + 1)) + c / 2 ^ (b + 1) := ⟨_, rfl⟩
     have HN : Hid (E * 2 ^ (8 - b) + c / 2 ^ b = 2 * N + c / 2 ^ b % 2) := by
      show _ = _
      rw [hN, Nat.mul_add, show 8 - b = 8 - (b + 1) + 1 by omega, Nat.pow_succ]
      have := bit_step c b
      have h3 : E * (2 ^ (8 - (b + 1)) * 2) = 2 * (E * 2 ^ (8 - (b + 1))) := by rw [← Nat.mul_assoc, Nat.mul_comm]
      omega
     rw [← hN] at hpe
     have hm := fun w1 => mul24 pw pw w1 hpw hpw
     have hq := mulE_wf hpw hpw
     have hqe := pow_dbl a.val N pp hpe (mulE_mod pw pw)
     obtain ⟨q, hqq⟩ : ∃ q, q = mulE pw pw := ⟨_, rfl⟩
     rw [← hqq] at hm hq hqe
     have HQE : Hid (q.val % pp = a.val ^ (2 * N) % pp) := hqe
     clear hqe hqq hN hpe hpw ht0
     have hcb : c / 2 ^ b < 256 := Nat.lt_of_le_of_lt (Nat.div_le_self _ _) hcl
     have hand := and1_8 (c / 2 ^ b) hcb
     simp only [Int.natCast_ediv, Int.natCast_pow, Int.cast_ofNat_Int] at hand
     go_wp2_with (refine wpList_load_row rfl 58 (.tmp 5) rfl _ rfl 58 (elc pw) (0, 0) _ hp Tryz.underlying58 rfl info26 ?_)
     refine (hm _).mono ?_
     rintro e w2 ⟨rfl, hb2⟩
     have hp2 := block_below hb2 (lt_of_heap hp) hp
     have hx2 := block_below hb2 (lt_of_heap hx) hx
     have hz2 := block_below hb2 (lt_of_heap hz) hz
     have hB2 := hB.trans (hb2.mono hB.size)
     have hcell : (w2.setRow g (elc q)).cell? ⟨gx, off + i, none⟩ = some (.int .u8 (c : Int)) := by
      rw [cell_setRow_other _ _ _ _ (by show gx ≠ g; omega)]
      exact (hB2.cell (p := ⟨gx, off + i, none⟩) hgx).trans hci
     have HR2 : Hid (Below w.heap.size w (w2.setRow g (elc q)) ∧ (w2.setRow g (elc q)).heap[w.heap.size]? = some (.cells (elc a) 58 (0, 0)) ∧ (w2.setRow g (elc q)).heap[w.heap.size + 1]? = some (.cells z5 58 (0, 0)) ∧ (w2.setRow g (elc q)).heap[g]? = some (.cells (elc q) 58 (0, 0))) :=
      ⟨setRow_below hB2 (by omega) _, (setRow_other _ _ _ _ (by omega)).trans hx2, (setRow_other _ _ _ _ (by omega)).trans hz2, setRow_heap _ _ _ _ _ _ hp2⟩
     clear hb2 hm hp hx hz hB hx2 hz2 hB2 hci2
     by_cases hodd : c / 2 ^ b % 2 = 1
     ·have ho2 : bits BinOp.and IntKind.u8 ((c : Int) / 2 ^ b) 1 = 1 := by rw [hand, hodd]; rfl
      have HO : Hid (c / 2 ^ b % 2 = 1) := hodd
      clear hodd hand
      obtain ⟨hB3, hx3, hz3, hp3⟩ := HR2.out
      have hm := fun w1 => mul24 q a w1 hq ha
      have hr := mulE_wf hq ha
      have hre : Hid ((mulE q a).val % pp = a.val ^ (2 * N + 1) % pp) := pow_one a.val (2 * N) pp HQE.out (mulE_mod q a)
      obtain ⟨r, hrr⟩ : ∃ r, r = mulE q a := ⟨_, rfl⟩
      rw [← hrr] at hm hr hre
      clear hrr
      go_wp2_with (first
       | (refine wpList_store_row rfl 58 (.tmp 5) (.tmp 23) rfl _ (elc q) rfl rfl 58 _ hp2 info26 rfl (elc_one _) ?_)
       | (refine wpList_load_row rfl 58 (.tmp 5) rfl _ rfl 58 (elc q) (0, 0) _ hp3 Tryz.underlying58 rfl info26 ?_)
       | (refine wpList_load_row rfl 58 (.tmp 2) rfl _ rfl 58 (elc a) (0, 0) _ hx3 Tryz.underlying58 rfl info26 ?_))
      refine (hm _).mono ?_
      rintro e w4 ⟨rfl, hb4⟩
      have hp4 := block_below hb4 (lt_of_heap hp3) hp3
      have hx4 := block_below hb4 (lt_of_heap hx3) hx3
      have hz4 := block_below hb4 (lt_of_heap hz3) hz3
      have hB4 := hB3.trans (hb4.mono hB3.size)
      clear hb4 hB3 hx3 hz3 hp3 hm HR2 hp2 hcell
      go_wp2_with (refine wpList_store_row rfl 58 (.tmp 5) (.tmp 34) rfl _ (elc r) rfl rfl 58 _ hp4 info26 rfl (elc_one _) ?_)
      go_roundw
      case rel => exact ⟨b, by omega, rfl, r, hr, by rw [HN.out, HO.out]; exact hre.out, setRow_below hB4 (by omega) _, hg, (setRow_other _ _ _ _ (by omega)).trans hx4, (setRow_other _ _ _ _ (by omega)).trans hz4, setRow_heap _ _ _ _ _ _ hp4⟩
      case measure => simp [intOf]
     ·have ho2 : bits BinOp.and IntKind.u8 ((c : Int) / 2 ^ b) 1 = 0 := by rw [hand, show c / 2 ^ b % 2 = 0 by omega]; rfl
      have HO : Hid (c / 2 ^ b % 2 = 0) := by show _ = _; omega
      clear hodd hand
      go_wp2_with (refine wpList_store_row rfl 58 (.tmp 5) (.tmp 23) rfl _ (elc q) rfl rfl 58 _ hp2 info26 rfl (elc_one _) ?_)
      go_roundw
      case rel => exact ⟨b, by omega, rfl, q, hq, by rw [HN.out, HO.out]; exact HQE.out, HR2.out.1, hg, HR2.out.2.1, HR2.out.2.2.1, HR2.out.2.2.2⟩
      case measure => simp [intOf]
end Go.Proofs.YtabgihjffjlfiaaGreatDoor
set_option linter.unusedVariables false
namespace Go.Proofs.YtabgihjffjlfiaaGreatDoor
open Go.RowKit Go.Sort Go.BigFrame
set_option maxRecDepth 100000
set_option maxHeartbeats 2000000
theorem strengthen {P : Program} {md : Region.Mode} {ops : Array Oper} {Q : Exit → Act → World → Prop} {S S' : World → Prop} (hS : ∀ w, S' w → S w) : ∀ (n : Nat) (listed : Array Bool) (a : Act) (w : World), wpAnyH P md ops Q S' n listed a w → wpAnyH P md ops Q S n listed a w
 | 0, _, _, _, h => h
 | n + 1, _, _, _, h => ⟨h.1, fun i hi => wpOp_mono (fun a' w' h' => ⟨hS _ h'.1, strengthen hS n _ a' w' h'.2⟩) (h.2 i hi)⟩
theorem exp_val : (intE (-2)).val % pp = 57896044618658097711785492504343953926634992332820282019728792003956564819947 := by decide
theorem inv28 (a : E5) (w : World) (ha : a.wf) :
  Calls Tryz.prog 76 #[.agg (elc a)] w fun e w' => ∃ r : E5, r.wf ∧ r.val % pp = a.val ^ 57896044618658097711785492504343953926634992332820282019728792003956564819947 % pp ∧ e = .returned (.agg (elc r)) ∧ Below w.heap.size w w' := by
 have c1 := fun w1 => int17 (-2) w1 (by decide) (by decide)
 have c2 := fun w1 => bytes15 (intE (-2)) w1 (intE_wf (by decide) (by decide))
 rw [exp_val] at c2
 obtain ⟨X, hX⟩ : ∃ X, X = 57896044618658097711785492504343953926634992332820282019728792003956564819947 := ⟨_, rfl⟩
 have hXl : X < 256 ^ 32 := by rw [hX]; decide
 rw [← hX] at c2 ⊢
 have hvX : valD (digs 32 X) = X := valD_digs_lt hXl
 clear hX hXl
 obtain ⟨m2, hm2⟩ : ∃ m, m = elc (intE (-2)) := ⟨_, rfl⟩
 rw [← hm2] at c1 c2
 clear hm2
 have c3 := fun w1 g (h : w1.heap[g]? = some (.cells (ints .u8 (digs 32 X)) 5 (0, 0))) => pow30 a (some ⟨g, 0, none⟩) 32 32 (digs 32 X) w1 ha (digs_len _ _) (by omega) (by omega) (by omega) (digs_dig _ _) (fun _ => ⟨g, 0, rfl, bytes_row h⟩)
 rw [hvX] at c3
 have HVX : Hid (valD (digs 32 X) = X) := hvX
 clear hvX
 obtain ⟨va, hva⟩ : ∃ l, l = elc a := ⟨_, rfl⟩
 have hsa : va.size = 5 := by rw [hva]; rfl
 rw [← hva] at c3 ⊢
 clear hva
 go_enter Tryz.func76, Tryz.ntmps76
 go_wp2_with fail
 have hx : (((w.alloc (.cells va 58)).alloc (.cells #[.int .u64 0, .int .u64 0, .int .u64 0, .int .u64 0, .int .u64 0] 58))).heap[w.heap.size]? = some (.cells va 58 (0, 0)) := heap2_0 _ _ _
 have hz : (((w.alloc (.cells va 58)).alloc (.cells #[.int .u64 0, .int .u64 0, .int .u64 0, .int .u64 0, .int .u64 0] 58))).heap[w.heap.size + 1]? = some (.cells z5 58 (0, 0)) := heap_alloc2_new _ _ _
 have hB : Below w.heap.size w ((w.alloc (.cells va 58)).alloc (.cells #[.int .u64 0, .int .u64 0, .int .u64 0, .int .u64 0, .int .u64 0] 58)) := below2 _ _ _
 generalize ((w.alloc (.cells va 58)).alloc (.cells #[.int .u64 0, .int .u64 0, .int .u64 0, .int .u64 0, .int .u64 0] 58)) = u at hx hz hB ⊢
 have hS0 : Below w.heap.size w u.drew ∧ u.drew.heap[w.heap.size]? = some (.cells va 58 (0, 0)) := ⟨hB.drew, hx⟩
 refine wp_region_held (S := fun w' => Below w.heap.size w w' ∧ w'.heap[w.heap.size]? = some (.cells va 58 (0, 0))) (by kernel_rfl) ?_
 show wpAnyH _ _ _ _ _ 5 (Array.replicate 5 false) _ u.drew
 refine take_at (i := 0) (some 3) _ rfl rfl (by kernel_rfl) (by kernel_rfl) (by kernel_rfl) (fun _ _ _ h => h) (yields_load_row rfl 58 (.tmp 1) rfl _ rfl 58 va (0, 0) _ (fun _ h => h.2) Tryz.underlying58 rfl (by rw [hsa]; exact info26)) hS0 ?_
 simp only [Act.put, lA, lS, lZ]
 refine one_at (i := 1) (by kernel_rfl) ?_
 refine call_at (some 4) rfl rfl rfl 89 #[.int .i64 (-2)] (R := fun v w' => v = .agg m2 ∧ Below u.drew.heap.size u.drew w') (by kernel_rfl) ((c1 u.drew).mono fun e w' h => ⟨_, h.1, rfl, h.2⟩) ?_
 rintro v1 w1 ⟨rfl, hb1⟩
 have hS1 : Below w.heap.size w w1 ∧ w1.heap[w.heap.size]? = some (.cells va 58 (0, 0)) := ⟨hS0.1.trans (hb1.mono hS0.1.size), block_below hb1 (lt_of_heap hS0.2) hS0.2⟩
 have hz1 : w1.heap[w.heap.size + 1]? = some (.cells z5 58 (0, 0)) := block_below hb1 (lt_of_heap (w := u.drew) hz) hz
 clear hb1 hS0 hz hx hB
 refine ⟨hS1, ?_⟩
 simp only [Act.put, lA, lS, lZ]
 refine one_at (i := 2) (by kernel_rfl) ?_
 refine call_at (some 5) rfl rfl rfl 78 #[.agg m2] (R := fun v w' => ∃ g, v = .slice (some ⟨g, 0, none⟩) 32 32 ∧ Below w1.heap.size w1 w' ∧ w'.heap[g]? = some (.cells (ints .u8 (digs 32 X)) 5 (0, 0))) (by kernel_rfl) ((c2 w1).mono fun e w' ⟨g, h1, _, h2, h3⟩ => ⟨_, h1, g, rfl, h2, h3⟩) ?_
 rintro v2 w2 ⟨g, rfl, hb2, hg2⟩
 have hS2 : Below w.heap.size w w2 ∧ w2.heap[w.heap.size]? = some (.cells va 58 (0, 0)) := ⟨hS1.1.trans (hb2.mono hS1.1.size), block_below hb2 (lt_of_heap hS1.2) hS1.2⟩
 have hz2 : w2.heap[w.heap.size + 1]? = some (.cells z5 58 (0, 0)) := block_below hb2 (lt_of_heap hz1) hz1
 clear hb2 hS1 hz1
 refine ⟨hS2, ?_⟩
 simp only [Act.put, lA, lS, lZ]
 refine one_at (i := 3) (by kernel_rfl) ?_
 refine call_at (some 6) rfl rfl rfl 95 #[.agg va, .slice (some ⟨g, 0, none⟩) 32 32] (R := fun v w' => ∃ r : E5, r.wf ∧ r.val % pp = a.val ^ X % pp ∧ v = .agg (elc r) ∧ Below w2.heap.size w2 w') (by kernel_rfl) ((c3 w2 g hg2).mono fun e w' ⟨r, h1, h2, h3, h4⟩ => ⟨_, h3, r, h1, h2, rfl, h4⟩) ?_
 rintro v3 w3 ⟨r, hr, hre, rfl, hb3⟩
 have HRE : Hid (r.val % pp = a.val ^ X % pp) := hre
 have hS3 : Below w.heap.size w w3 ∧ w3.heap[w.heap.size]? = some (.cells va 58 (0, 0)) := ⟨hS2.1.trans (hb3.mono hS2.1.size), block_below hb3 (lt_of_heap hS2.2) hS2.2⟩
 have hz3 : w3.heap[w.heap.size + 1]? = some (.cells z5 58 (0, 0)) := block_below hb3 (lt_of_heap hz2) hz2
 clear hb3 hS2 hz2 hre
 refine ⟨hS3, ?_⟩
 simp only [Act.put, lA, lS, lZ]
 refine one_at (i := 4) (by kernel_rfl) ?_
 refine store_at rfl rfl rfl 58 (.tmp 2) (.tmp 6) rfl _ (elc r) rfl rfl 58 _ hz3 info26 rfl (elc_one _) ?_
 refine ⟨⟨setRow_below hS3.1 (by omega) _, (setRow_other _ _ _ _ (by omega)).trans hS3.2⟩, wpAnyH_done (by kernel_rfl) ?_ _⟩
 go_wp2
 refine bodyPost_ret (v := .agg (elc r)) ?_ rfl ⟨r, hr, HRE.out, rfl, setRow_below hS3.1 (by omega) _⟩
 exact results_cell_row Tryz.results76 _ _ _ 58 _ (0, 0) _ rfl (setRow_heap _ _ _ _ _ _ hz3) Tryz.underlying58 rfl info26
end Go.Proofs.YtabgihjffjlfiaaGreatDoor
set_option linter.unusedVariables false
namespace Go.Proofs.YtabgihjffjlfiaaGreatDoor
open Go.RowKit Go.Sort Go.BigFrame
set_option maxRecDepth 100000
set_option maxHeartbeats 2000000
def IntsAt (w : World) (b off : Nat) (l : List Nat) : Prop := ∀ i, i < l.length → w.cell? ⟨b, off + i, none⟩ = some (.int .i64 ((l.getD i 0 : Nat) : Int))
theorem IntsAt.below {w w' : World} {b off B : Nat} {l : List Nat} (h : IntsAt w b off l) (hb : Below B w w') (hlt : b < B) : IntsAt w' b off l :=
 fun i hi => (hb.cell (p := ⟨b, off + i, none⟩) hlt).trans (h i hi)
def IView (w : World) (a : Option Addr) (l : List Nat) : Prop := 0 < l.length → ∃ b off, a = some ⟨b, off, none⟩ ∧ IntsAt w b off l
theorem IView.below {w w' : World} {a : Option Addr} {l : List Nat} (h : IView w a l) (hb : Below w.heap.size w w') : IView w' a l := fun hp => by
 obtain ⟨b, off, ha, hc⟩ := h hp
 exact ⟨b, off, ha, hc.below hb (block_lt_of_cell (hc 0 hp))⟩
theorem ints_row {w : World} {g t : Nat} {l : List Nat} (h : w.heap[g]? = some (.cells (ints .i64 l) t (0, 0))) : IntsAt w g 0 l := fun i hi => by
 rw [Nat.zero_add]; exact cell_ints h i hi
def IRow (w : World) (v : Value) (l : List Nat) : Prop := ∃ a cap, v = .slice a l.length cap ∧ l.length ≤ cap ∧ cap ≤ 9223372036854775807 ∧ IView w a l
theorem IRow.below {w w' : World} {v : Value} {l : List Nat} (h : IRow w v l) (hb : Below w.heap.size w w') : IRow w' v l := by
 obtain ⟨a, cap, h1, h2, h3, h4⟩ := h
 exact ⟨a, cap, h1, h2, h3, h4.below hb⟩
theorem made_i64 (n : Nat) : madeCells #[.int .i64 0] n = ints .i64 (List.replicate n 0) := by
 apply Array.ext'
 rw [madeCells]
 apply List.ext_getElem
 ·simp [ints]
 ·intro i h1 h2
  simp [ints, Nat.mod_one]
theorem make31 (n : Nat) (hn : n ≤ 100000) (w1 : World) : (Instr.makeSlice 43 (.int .i64 (n : Int)) (.int .i64 (n : Int))).run Tryz.prog w1 = .ok (.slice (some ⟨w1.heap.size, 0, none⟩) n n) (w1.alloc (.cells (ints .i64 (digs n 0)) 3)) := by
 have := run_make_row' (P := Tryz.prog) 43 3 (.int .i64 0) 8 Tryz.underlying43 (by kernel_rfl) rfl .i64 .i64 n (by omega) (by omega) w1
 rw [made_i64, ← digs_zero] at this
 exact this
theorem alloc_row (w : World) (l : List Nat) (t : TypeId) : (w.alloc (.cells (ints .i64 l) t)).heap[w.heap.size]? = some (.cells (ints .i64 l) t (0, 0)) := heap_alloc_new _ _
def RelR (w wr : World) (g : Nat) (l : List Nat) : Prop := Below w.heap.size w wr ∧ w.heap.size ≤ g ∧ wr.heap[g]? = some (.cells (ints .i64 l) 3 (0, 0))
theorem RelR.set {w wr : World} {g : Nat} {l : List Nat} (h : RelR w wr g l) (k v : Nat) : RelR w (wr.setCell ⟨g, k, none⟩ (.int .i64 (v : Int))) g (l.set k v) :=
 ⟨h.1.setCell h.2.1 _, h.2.1, set_ints h.2.2 _ _⟩
theorem RelR.at {w wr : World} {g : Nat} {l : List Nat} (h : RelR w wr g l) (k : Nat) (hk : k < l.length) : wr.cell? ⟨g, k, none⟩ = some (.int .i64 ((l.getD k 0 : Nat) : Int)) := cell_ints h.2.2 k hk
theorem RelR.free {w wr : World} {g : Nat} {l : List Nat} (h : RelR w wr g l) (k : Nat) : wr.frozen? ⟨g, k, none⟩ = false := free_ints h.2.2 k
theorem RelR.drew {w wr : World} {g : Nat} {l : List Nat} (h : RelR w wr g l) : RelR w wr.drew g l := ⟨h.1.drew, h.2.1, h.2.2⟩
/- P -/
def pk (k : Nat) : List Nat := List.replicate k 255 ++ List.replicate (32 - k) 0
theorem pk_len {k : Nat} (h : k ≤ 32) : (pk k).length = 32 := by simp [pk]; omega
theorem pk_set {k : Nat} (h : k < 32) : (pk k).set k 255 = pk (k + 1) := by
 unfold pk
 rw [List.set_append_right _ _ (by simp), show 32 - k = (32 - (k + 1)) + 1 by omega, List.replicate_succ]
 simp [List.replicate_succ', List.append_assoc]
theorem pk_end : ((pk 32).set 0 237).set 31 127 = digs 32 pp := by decide
theorem p12 (w : World) : Calls Tryz.prog 61 #[] w fun e w' => ∃ g, e = .returned (.slice (some ⟨g, 0, none⟩) 32 32) ∧ RelR w w' g (digs 32 pp) := by
 have hmk := make31 32 (by omega)
 simp only [Int.cast_ofNat_Int] at hmk
 go_enter Tryz.func61, Tryz.ntmps61
 go_wp2_with fail
 have hR0 : RelR w (w.alloc (.cells (ints .i64 (digs 32 0)) 3)) w.heap.size (pk 0) := ⟨below1 _ _, Nat.le_refl _, by rw [show pk 0 = digs 32 0 from rfl]; exact alloc_row _ _ _⟩
 go_loopw [2] (fun i wr => ∃ k : Nat, k ≤ 32 ∧ i = .int .i64 k ∧ RelR w wr w.heap.size (pk k)) (fun i _ => 32 - (intOf i).toNat)
 case atStart => exact ⟨0, by omega, rfl, hR0⟩
 case round =>
  obtain ⟨k, hk, rfl, hR⟩ := hrel
  clear hR0 hmk
  by_cases hlt : k < 32
  ·have c1 := hR.at k (by rw [pk_len hk]; omega)
   have f1 := hR.free k
   have HN : Hid (RelR w (wr.setCell ⟨w.heap.size, k, none⟩ (.int .i64 255)) w.heap.size (pk (k + 1))) := by
    show RelR _ _ _ _
    rw [← pk_set hlt]; exact hR.set k 255
   clear hR
   go_wp2
   go_roundw
   case rel => exact ⟨k + 1, by omega, by go_num, HN.out⟩
   case measure => simp [intOf]; omega
  ·obtain rfl : k = 32 := by omega
   have c0 := hR.at 0 (by rw [pk_len hk]; omega)
   have f0 := hR.free 0
   have hR1 : RelR w (wr.setCell ⟨w.heap.size, 0, none⟩ (.int .i64 237)) w.heap.size ((pk 32).set 0 237) := hR.set 0 237
   have c1 := hR1.at 31 (by decide)
   have f1 := hR1.free 31
   have HR2 : Hid (RelR w ((wr.setCell ⟨w.heap.size, 0, none⟩ (.int .i64 237)).setCell ⟨w.heap.size, 31, none⟩ (.int .i64 127)) w.heap.size (digs 32 pp)) := by
    show RelR _ _ _ _
    rw [← pk_end]; exact hR1.set 31 127
   clear hR hR1
   go_wp2
   go_ret
   exact ⟨w.heap.size, rfl, HR2.out⟩
/- Less -/
theorem less_at {a b : List Nat} {i : Nat} (ha : Dig a) (hb : Dig b) (he : valD (a.drop (i + 1)) = valD (b.drop (i + 1))) (hne : a.getD i 0 ≠ b.getD i 0) : (a.getD i 0 < b.getD i 0) ↔ valD a < valD b := by
 have h1 : ∀ l : List Nat, Dig l → valD l = valD (l.take i) + 256 ^ i * (l.getD i 0 + 256 * valD (l.drop (i + 1))) := fun l hl => by
  by_cases h : i ≤ l.length
  ·have := valD_append (l.take i) (l.drop i)
   rw [List.take_append_drop, List.length_take, show min i l.length = i by omega, drop_val l i] at this
   exact this
  ·rw [List.take_of_length_le (by omega), List.drop_of_length_le (by omega), List.getD_eq_getElem?_getD, List.getElem?_eq_none (by omega)]; simp [valD]
 have ea := h1 a ha
 have eb := h1 b hb
 have la := valD_take_lt ha i
 have lb := valD_take_lt hb i
 rw [ea, eb, he]
 obtain ⟨q, hq⟩ : ∃ q, q = 256 ^ i := ⟨_, rfl⟩
 obtain ⟨T, hT⟩ : ∃ T, T = 256 * valD (b.drop (i + 1)) := ⟨_, rfl⟩
 rw [← hq, ← hT, Nat.mul_add, Nat.mul_add]
 rw [← hq] at la lb
 obtain ⟨x, hx⟩ : ∃ x, x = a.getD i 0 := ⟨_, rfl⟩
 obtain ⟨y, hy⟩ : ∃ y, y = b.getD i 0 := ⟨_, rfl⟩
 rw [← hx, ← hy] at hne ⊢
 constructor
 ·intro h
  have : q * (x + 1) ≤ q * y := Nat.mul_le_mul_left _ h
  rw [Nat.mul_add] at this
  omega
 ·intro h
  by_cases hlt : x < y
  ·exact hlt
  ·have : q * (y + 1) ≤ q * x := Nat.mul_le_mul_left _ (by omega)
   rw [Nat.mul_add] at this
   omega
theorem getD_out {l : List Nat} {i : Nat} (h : l.length ≤ i) : l.getD i 0 = 0 := by rw [List.getD_eq_getElem?_getD, List.getElem?_eq_none h]; rfl
theorem less10 (a : Option Addr) (la ca : Nat) (x : List Nat) (b : Option Addr) (lb cb : Nat) (y : List Nat) (w : World) (hx : Hid (x.length = la)) (hy : Hid (y.length = lb)) (hla : la ≤ 100000) (hlb : lb ≤ 100000)
  (ha : IView w a x) (hb : IView w b y) (dx : Dig x) (dy : Dig y) :
  Calls Tryz.prog 60 #[.slice a la ca, .slice b lb cb] w fun e w' => e = .returned (.bool (decide (valD x < valD y))) ∧ w' = w := by
 go_enter Tryz.func60, Tryz.ntmps60
 go_wp2_with fail
 go_loop [5] (fun i => ∃ j : Nat, j ≤ la + lb + 1 ∧ i = .int .i64 ((j : Int) - 1) ∧ valD (x.drop j) = valD (y.drop j)) (fun i => (intOf i + 1).toNat)
 case atStart => exact ⟨la + lb + 1, Nat.le_refl _, by go_num, by rw [List.drop_of_length_le (by rw [hx.out]; omega), List.drop_of_length_le (by rw [hy.out]; omega)]⟩
 case round =>
  obtain ⟨j, hj, rfl, he⟩ := hrel
  have HE : Hid (valD (x.drop j) = valD (y.drop j)) := he
  clear he
  by_cases hj0 : j = 0
  ·subst hj0
   have hf : Hid (decide (valD x < valD y) = false) := by
    have := HE.out
    rw [List.drop_zero, List.drop_zero] at this
    show _ = _
    rw [decide_eq_false_iff_not]; omega
   go_wp2
   go_ret
   exact ⟨ret_bool hf.out.symm, rfl⟩
  ·obtain ⟨i, rfl⟩ : ∃ i, j = i + 1 := ⟨j - 1, by omega⟩
   have eI : (((i + 1 : Nat) : Int) - 1) = (i : Int) := by omega
   rw [eI]
   clear eI hj0
   have hxx : Hid (valD (x.drop i) = x.getD i 0 + 256 * valD (x.drop (i + 1))) := drop_val x i
   have hyy : Hid (valD (y.drop i) = y.getD i 0 + 256 * valD (y.drop (i + 1))) := drop_val y i
   have hless : Hid (x.getD i 0 ≠ y.getD i 0 → ((x.getD i 0 < y.getD i 0) ↔ valD x < valD y)) := fun h => less_at dx dy HE.out h
   have hdx := dx i
   have hdy := dy i
   by_cases h1 : i < la
   all_goals by_cases h2 : i < lb
   ·obtain ⟨g1, o1, rfl, hc1⟩ := ha (by rw [hx.out]; omega)
    obtain ⟨g2, o2, rfl, hc2⟩ := hb (by rw [hy.out]; omega)
    have k1 := hc1 i (by rw [hx.out]; omega)
    have k2 := hc2 i (by rw [hy.out]; omega)
    obtain ⟨u, hu⟩ : ∃ u, u = x.getD i 0 := ⟨_, rfl⟩
    obtain ⟨v, hv⟩ : ∃ v, v = y.getD i 0 := ⟨_, rfl⟩
    rw [← hu] at k1 hxx hless
    rw [← hv] at k2 hyy hless
    clear hc1 hc2 hu hv hdx hdy
    by_cases huv : u = v
    ·subst huv
     go_wp2
     go_round
     case rel => exact ⟨i, by omega, rfl, by rw [hxx.out, hyy.out, HE.out]⟩
     case measure => simp [intOf]
    ·have hne : ((u : Int) != (v : Int)) = true := by simp; omega
     go_wp2
     go_ret
     refine ⟨ret_bool (b := decide (valD x < valD y)) ?_, rfl⟩
     have := hless.out huv
     rw [Bool.eq_iff_iff]; simp; omega
   ·obtain ⟨g1, o1, rfl, hc1⟩ := ha (by rw [hx.out]; omega)
    have k1 := hc1 i (by rw [hx.out]; omega)
    rw [getD_out (l := y) (by rw [hy.out]; omega)] at hyy hless
    obtain ⟨u, hu⟩ : ∃ u, u = x.getD i 0 := ⟨_, rfl⟩
    rw [← hu] at k1 hxx hless
    clear hc1 hu hdx hdy
    by_cases huv : u = 0
    ·subst huv
     go_wp2
     go_round
     case rel => exact ⟨i, by omega, rfl, by rw [hxx.out, hyy.out, HE.out]⟩
     case measure => simp [intOf]
    ·have hne : ((u : Int) != 0) = true := by simp; omega
     go_wp2
     go_ret
     refine ⟨ret_bool (b := decide (valD x < valD y)) ?_, rfl⟩
     have := hless.out huv
     rw [Bool.eq_iff_iff]; simp; omega
   ·obtain ⟨g2, o2, rfl, hc2⟩ := hb (by rw [hy.out]; omega)
    have k2 := hc2 i (by rw [hy.out]; omega)
    rw [getD_out (l := x) (by rw [hx.out]; omega)] at hxx hless
    obtain ⟨v, hv⟩ : ∃ v, v = y.getD i 0 := ⟨_, rfl⟩
    rw [← hv] at k2 hyy hless
    clear hc2 hv hdx hdy
    by_cases huv : v = 0
    ·subst huv
     go_wp2
     go_round
     case rel => exact ⟨i, by omega, rfl, by rw [hxx.out, hyy.out, HE.out]⟩
     case measure => simp [intOf]
    ·have hne : ((0 : Int) != (v : Int)) = true := by simp; omega
     go_wp2
     go_ret
     refine ⟨ret_bool (b := decide (valD x < valD y)) ?_, rfl⟩
     have := hless.out (fun h => huv h.symm)
     rw [Bool.eq_iff_iff]; simp; omega
   ·rw [getD_out (l := x) (by rw [hx.out]; omega)] at hxx
    rw [getD_out (l := y) (by rw [hy.out]; omega)] at hyy
    go_wp2
    go_round
    case rel => exact ⟨i, by omega, rfl, by rw [hxx.out, hyy.out, HE.out]⟩
    case measure => simp [intOf]
end Go.Proofs.YtabgihjffjlfiaaGreatDoor
set_option linter.unusedVariables false
namespace Go.Proofs.YtabgihjffjlfiaaGreatDoor
open Go.RowKit Go.Sort Go.BigFrame
set_option maxRecDepth 100000
set_option maxHeartbeats 2000000
def iv (l : List Nat) : List Value := l.map fun (x : Nat) => Value.int .i64 (x : Int)
def bv (l : List Nat) : List Value := l.map fun (x : Nat) => Value.int .u8 (x : Int)
theorem one_int {n : Int} : ∀ u ∈ [Value.int .i64 n], u.oneCell' = true := fun u hu => by rw [List.mem_singleton.1 hu]; rfl
theorem one_byte {n : Int} : ∀ u ∈ [Value.int .u8 n], u.oneCell' = true := fun u hu => by rw [List.mem_singleton.1 hu]; rfl
theorem own_slice {w : World} {base t n : Nat} {v : Value} {xs : List Value} (h : w.ownsRow base t 1 v n xs) : ∃ a cap, v = .slice a n cap ∧ n ≤ cap ∧ cap ≤ 9223372036854775807 := by
 rcases h.2 with ⟨h1, h0⟩ | ⟨g, cap, cur, hv, _, _, h1, h2, _⟩
 ·exact ⟨none, 0, by rw [h1, h0], by omega, by omega⟩
 ·exact ⟨_, _, hv, h1, by unfold maxLen at h2; omega⟩
theorem own_iview {w : World} {B n c t : Nat} {a : Option Addr} {l : List Nat} (h : w.ownsRow B t 1 (.slice a n c) n (iv l)) : IView w a l ∧ l.length = n := by
 have hl : l.length = n := by have := h.1; simp [iv] at this; omega
 refine ⟨fun hp => ?_, hl⟩
 rcases h.2 with ⟨h1, h0⟩ | ⟨g, cap, cur, hv, _⟩
 ·omega
 ·cases hv
  refine ⟨g, 0, rfl, fun i hi => ?_⟩
  rw [Nat.zero_add, h.cellAt i (by omega)]
  simp [iv, hi]
theorem own_bview {w : World} {B n c t : Nat} {a : Option Addr} {l : List Nat} (h : w.ownsRow B t 1 (.slice a n c) n (bv l)) : View w a l ∧ l.length = n := by
 have hl : l.length = n := by have := h.1; simp [bv] at this; omega
 refine ⟨fun hp => ?_, hl⟩
 rcases h.2 with ⟨h1, h0⟩ | ⟨g, cap, cur, hv, _⟩
 ·omega
 ·cases hv
  refine ⟨g, 0, rfl, fun i hi => ?_⟩
  rw [Nat.zero_add, h.cellAt i (by omega)]
  simp [bv, hi]
theorem own_on {w w1 : World} {B n t : Nat} {v : Value} {xs : List Value} (h : w.ownsRow B t 1 v n xs) (hb : Below w.heap.size w w1) : w1.ownsRow B t 1 v n xs := by
 refine ⟨h.1, ?_⟩
 rcases h.2 with h1 | ⟨g, cap, cur, hv, h2, h3, h4⟩
 ·exact .inl h1
 ·exact .inr ⟨g, cap, cur, hv, h2, block_below hb (lt_of_heap h3) h3, h4⟩
theorem info_parts {t : TypeId} {z : Value} {s b : Nat} (h : (Tryz.prog.info? t).map (fun i => (i.zero, i.size, i.bytes)) = some (some z, s, b)) : ∃ i0, Tryz.prog.info? t = some i0 ∧ i0.zero = some z ∧ i0.size = s ∧ i0.bytes = b := by
 obtain ⟨i0, hi, hz⟩ := Option.map_eq_some_iff.1 h
 simp only [Prod.mk.injEq] at hz
 exact ⟨i0, hi, hz.1, hz.2.1, hz.2.2⟩
theorem info3 : ∃ i0, Tryz.prog.info? 3 = some i0 ∧ i0.zero = some (.int .i64 0) ∧ i0.size = 1 ∧ i0.bytes = 8 := info_parts (by kernel_rfl)
theorem info5 : ∃ i0, Tryz.prog.info? 5 = some i0 ∧ i0.zero = some (.int .u8 0) ∧ i0.size = 1 ∧ i0.bytes = 1 := info_parts (by kernel_rfl)
theorem news_one (w : World) (v : Value) (t : TypeId) : ∀ (j : Nat) u, [v][j]? = some u → (w.alloc (.cells #[v] t)).cell? ((⟨w.heap.size, 0, none⟩ : Addr).add j) = some u := by
 intro j u hj
 match j, hj with
 | 0, hj =>
  obtain rfl : v = u := by simpa using hj
  rw [Addr.add_mid, cell_of_row _ _ _ _ _ _ (heap_alloc_new _ _)]; rfl
theorem iv_snoc (l : List Nat) (x : Nat) : iv l ++ [.int .i64 (x : Int)] = iv (l ++ [x]) := by simp [iv]
theorem bv_snoc (l : List Nat) (x : Nat) : bv l ++ [.int .u8 (x : Int)] = bv (l ++ [x]) := by simp [bv]
theorem digits11 (a : Option Addr) (len cap : Nat) (bs : List Nat) (w : World) (hlen : Hid (bs.length = len)) (hcap : len ≤ cap) (hl : len ≤ 10000) (hd : Dig bs) (hv : View w a bs) :
  Calls Tryz.prog 59 #[.slice a len cap] w fun e w' => ∃ v, e = .returned v ∧ Below w.heap.size w w' ∧ w'.ownsRow w.heap.size 3 1 v len (iv bs) := by
 obtain ⟨i0, hi, hz0, hz1, hz2⟩ := info3
 go_enter Tryz.func59, Tryz.ntmps59
 go_wp2_with fail
 go_loopw [3, 4] (fun v i wr => ∃ k : Nat, k ≤ len ∧ i = .int .i64 k ∧ Below w.heap.size w wr ∧ wr.ownsRow w.heap.size 3 1 v k (iv (bs.take k))) (fun _ i _ => len - (intOf i).toNat)
 case atStart => exact ⟨0, by omega, rfl, Below.refl _ _, World.ownsRow_nil _ _ _ _⟩
 case round =>
  obtain ⟨k, hk, rfl, hB, hown⟩ := hrel
  by_cases hlt : k < len
  ·obtain ⟨g, off, rfl, hc⟩ := hv (by rw [hlen.out]; omega)
   have hck0 := hc k (by rw [hlen.out]; omega)
   have hgx := block_lt_of_cell hck0
   have hck := (hB.cell (p := ⟨g, off + k, none⟩) hgx).trans hck0
   obtain ⟨c, hcc⟩ : ∃ c, c = bs.getD k 0 := ⟨_, rfl⟩
   rw [← hcc] at hck
   have hcl : c < 256 := by rw [hcc]; exact hd k
   have HT : Hid (bs.take (k + 1) = bs.take k ++ [c]) := by show _ = _; rw [hcc]; exact take_succ' bs k (by rw [hlen.out]; omega)
   clear hck0 hc hcc
   have hown' := hown.alloc (.cells #[.int .i64 (c : Int)] 3)
   have hm1 : k + 1 ≤ maxLen := by unfold maxLen; omega
   have hm2 : (k + 1) * 8 ≤ 140737488355328 := by omega
   have hm3 : w.heap.size ≤ (wr.alloc (.cells #[.int .i64 (c : Int)] 3)).heap.size := by have := hB.size; simp; omega
   go_wp2_with (at_builtin; refine wpList_append_own _ rfl (.tmp 11) (.tmp 17) 43 rfl w.heap.size 3 i0 (.int .i64 0) 1 8 Tryz.underlying43 hi hz0 hz1 hz2 rfl (by decide) u3 k (iv (bs.take k)) rfl hown' ⟨wr.heap.size, 0, none⟩ 1 1 [.int .i64 (c : Int)] rfl rfl (news_one _ _ _) one_int hm1 hm2 hm3 ?_; intro v2 w2 hown2 hgrow2 _)
   have hB2 : Below w.heap.size w w2 := (hB.alloc hB.size _).grown hgrow2 hm3 (fun j hj => (hown.lt j hj).1)
   rw [iv_snoc, ← HT.out] at hown2
   go_roundw
   case rel => first | exact ⟨k + 1, by omega, by go_num, hB2, hown2⟩ | ((repeat apply Exists.intro); exact ⟨⟨k + 1, by omega, by go_num, hB2, hown2⟩, rfl⟩)
   case measure => simp [intOf]; omega
  ·obtain rfl : k = len := by omega
   have HT : Hid (bs.take k = bs) := List.take_of_length_le (by rw [hlen.out]; exact Nat.le_refl _)
   rw [HT.out] at hown
   obtain ⟨a3, c3, rfl, _⟩ := own_slice hown
   go_wp2_with fail
   go_ret
   exact ⟨_, rfl, hB, hown⟩
theorem digs_snoc (n v : Nat) : digs n v ++ [v / 256 ^ n % 256] = digs (n + 1) v := by
 have := digs_app n 1 v
 rw [← this]; simp [digs]
theorem bytes31 (a : Option Addr) (len cap : Nat) (l : List Nat) (w : World) (hlen : Hid (l.length = len)) (hl : len ≤ 10000) (hd : Dig l) (hv : IView w a l) :
  Calls Tryz.prog 48 #[.slice a len cap] w fun e w' => ∃ v, e = .returned v ∧ Below w.heap.size w w' ∧ w'.ownsRow w.heap.size 5 1 v 32 (bv (digs 32 (valD l))) := by
 obtain ⟨i0, hi, hz0, hz1, hz2⟩ := info5
 go_enter Tryz.func48, Tryz.ntmps48
 go_wp2_with fail
 go_loopw [3, 4] (fun v i wr => ∃ k : Nat, k ≤ 32 ∧ i = .int .i64 k ∧ Below w.heap.size w wr ∧ wr.ownsRow w.heap.size 5 1 v k (bv (digs k (valD l)))) (fun _ i _ => 32 - (intOf i).toNat)
 case atStart => exact ⟨0, by omega, rfl, Below.refl _ _, World.ownsRow_nil _ _ _ _⟩
 case round =>
  obtain ⟨k, hk, rfl, hB, hown⟩ := hrel
  by_cases hlt : k < 32
  ·obtain ⟨c, hcc⟩ : ∃ c, c = l.getD k 0 := ⟨_, rfl⟩
   have hcl : c < 256 := by rw [hcc]; exact hd k
   have HT : Hid (digs (k + 1) (valD l) = digs k (valD l) ++ [c]) := by
    show _ = _
    rw [← digs_snoc]
    congr 2
    rw [hcc]
    by_cases h : k < l.length
    ·have := digs_get l.length (valD l) k h
     rw [digs_valD hd] at this
     exact this.symm
    ·rw [getD_out (by omega), Nat.div_eq_of_lt (Nat.lt_of_lt_of_le (valD_lt hd) (Nat.pow_le_pow_right (by decide) (by omega)))]
   have hown' := hown.alloc (.cells #[.int .u8 (c : Int)] 5)
   have hm1 : k + 1 ≤ maxLen := by unfold maxLen; omega
   have hm2 : (k + 1) * 1 ≤ 140737488355328 := by omega
   have hm3 : w.heap.size ≤ (wr.alloc (.cells #[.int .u8 (c : Int)] 5)).heap.size := by have := hB.size; simp; omega
   by_cases h2 : k < len
   ·obtain ⟨g, off, rfl, hc⟩ := hv (by rw [hlen.out]; omega)
    have hck0 := hc k (by rw [hlen.out]; omega)
    have hgx := block_lt_of_cell hck0
    have hck := (hB.cell (p := ⟨g, off + k, none⟩) hgx).trans hck0
    rw [← hcc] at hck
    clear hck0 hc hcc
    go_wp2_with (at_builtin; refine wpList_append_own _ rfl (.tmp 18) (.tmp 21) 22 rfl w.heap.size 5 i0 (.int .u8 0) 1 1 Tryz.underlying22 hi hz0 hz1 hz2 rfl (by decide) u3 k _ rfl hown' ⟨wr.heap.size, 0, none⟩ 1 1 [.int .u8 (c : Int)] rfl rfl (news_one _ _ _) one_byte hm1 hm2 hm3 ?_; intro v2 w2 hown2 hgrow2 _)
    have hB2 : Below w.heap.size w w2 := (hB.alloc hB.size _).grown hgrow2 hm3 (fun j hj => (hown.lt j hj).1)
    rw [bv_snoc, ← HT.out] at hown2
    go_roundw
    case rel => first | exact ⟨k + 1, by omega, by go_num, hB2, hown2⟩ | ((repeat apply Exists.intro); exact ⟨⟨k + 1, by omega, by go_num, hB2, hown2⟩, rfl⟩)
    case measure => simp [intOf]; omega
   ·obtain rfl : c = 0 := by rw [hcc]; exact getD_out (by rw [hlen.out]; omega)
    clear hcc
    simp only [Int.natCast_zero] at hown' hm3
    go_wp2_with (at_builtin; refine wpList_append_own _ rfl (.tmp 18) (.tmp 21) 22 rfl w.heap.size 5 i0 (.int .u8 0) 1 1 Tryz.underlying22 hi hz0 hz1 hz2 rfl (by decide) u3 k _ rfl hown' ⟨wr.heap.size, 0, none⟩ 1 1 [.int .u8 0] rfl rfl (news_one _ _ _) one_byte hm1 hm2 hm3 ?_; intro v2 w2 hown2 hgrow2 _)
    have hB2 : Below w.heap.size w w2 := (hB.alloc hB.size _).grown hgrow2 hm3 (fun j hj => (hown.lt j hj).1)
    have e0 := bv_snoc (digs k (valD l)) 0
    rw [← HT.out] at e0
    have hown3 : w2.ownsRow w.heap.size 5 1 v2 (k + 1) (bv (digs (k + 1) (valD l))) := by rw [← e0]; exact hown2
    go_roundw
    case rel => first | exact ⟨k + 1, by omega, by go_num, hB2, hown3⟩ | ((repeat apply Exists.intro); exact ⟨⟨k + 1, by omega, by go_num, hB2, hown3⟩, rfl⟩)
    case measure => simp [intOf]; omega
  ·obtain rfl : k = 32 := by omega
   obtain ⟨a3, c3, rfl, _⟩ := own_slice hown
   go_wp2_with fail
   go_ret
   exact ⟨_, rfl, hB, hown⟩
end Go.Proofs.YtabgihjffjlfiaaGreatDoor
set_option linter.unusedVariables false
namespace Go.Proofs.YtabgihjffjlfiaaGreatDoor
open Go.RowKit Go.Sort Go.BigFrame
set_option maxRecDepth 100000
set_option maxHeartbeats 2000000
/- Minus -/
def ym (x y : List Nat) (k : Nat) : Nat := valD (x.take k) + 256 ^ k - valD (y.take k)
theorem ym_succ {x y : List Nat} (dx : Dig x) (dy : Dig y) (k : Nat) : ym x y (k + 1) = ym x y k + 256 ^ k * (255 + x.getD k 0 - y.getD k 0) := by
 unfold ym
 rw [valD_take_succ, valD_take_succ, Nat.pow_succ]
 have h1 := valD_take_lt dy k
 have h2 := dx k
 have h3 := dy k
 obtain ⟨q, hq⟩ : ∃ q, q = 256 ^ k := ⟨_, rfl⟩
 rw [← hq] at h1 ⊢
 have e : 255 + x.getD k 0 - y.getD k 0 = 255 - y.getD k 0 + x.getD k 0 := by omega
 have e2 : q * (255 - y.getD k 0) + q * y.getD k 0 = q * 255 := by rw [← Nat.mul_add]; congr 1; omega
 rw [e, Nat.mul_add]
 omega
theorem ym_top {x y : List Nat} (dx : Dig x) (dy : Dig y) (k : Nat) : ym x y k / 256 ^ k ≤ 1 := by
 have h1 := valD_take_lt dx k
 have h2 : ym x y k < 2 * 256 ^ k := by unfold ym; omega
 have := (Nat.div_lt_iff_lt_mul (pos256 k)).2 h2
 omega
theorem minus40 (a : Option Addr) (la ca : Nat) (x : List Nat) (b : Option Addr) (lb cb : Nat) (y : List Nat) (w : World) (hx : Hid (x.length = la)) (hy : Hid (y.length = lb)) (hla : la ≤ 10000) (hlb : lb ≤ 10000)
  (ha : IView w a x) (hb : IView w b y) (dx : Dig x) (dy : Dig y) (hle : lb ≤ la) (hv : Hid (valD y ≤ valD x)) :
  Calls Tryz.prog 63 #[.slice a la ca, .slice b lb cb] w fun e w' => ∃ g, e = .returned (.slice (some ⟨g, 0, none⟩) la la) ∧ RelR w w' g (digs la (valD x - valD y)) := by
 have hmk := make31 la (by omega)
 go_enter Tryz.func63, Tryz.ntmps63
 go_wp2_with fail
 have hR0 : RelR w (w.alloc (.cells (ints .i64 (digs la 0)) 3)) w.heap.size (digs la (ym x y 0 % 256 ^ 0)) := ⟨below1 _ _, Nat.le_refl _, by rw [Nat.pow_zero, Nat.mod_one]; exact alloc_row _ _ _⟩
 go_loopw [6, 7] (fun bo i wr => ∃ k : Nat, k ≤ la ∧ i = .int .i64 k ∧ bo = .int .i64 ((1 - ym x y k / 256 ^ k : Nat) : Int) ∧ RelR w wr w.heap.size (digs la (ym x y k % 256 ^ k))) (fun _ i _ => la - (intOf i).toNat)
 case atStart => exact ⟨0, by omega, rfl, by simp [ym, valD], hR0⟩
 case round =>
  obtain ⟨k, hk, rfl, rfl, hR⟩ := hrel
  clear hR0 hmk
  by_cases hlt : k < la
  ·obtain ⟨g1, o1, rfl, hc1⟩ := ha (by rw [hx.out]; omega)
   have k10 := hc1 k (by rw [hx.out]; omega)
   have k1 := (hR.1.cell (p := ⟨g1, o1 + k, none⟩) (block_lt_of_cell k10)).trans k10
   have hs := ym_succ dx dy k
   have htop := ym_top dx dy k
   have hux := dx k
   have huy := dy k
   have c3 := hR.at k (by rw [digs_len]; omega)
   have f3 := hR.free k
   have hst := fun d => digs_step (N := la) (X := ym x y k) (k := k) (d := d) (by omega)
   have hdv := fun d => div_step (ym x y k) (256 ^ k) d (pos256 k)
   obtain ⟨u, hu⟩ : ∃ u, u = x.getD k 0 := ⟨_, rfl⟩
   obtain ⟨v, hvv⟩ : ∃ v, v = y.getD k 0 := ⟨_, rfl⟩
   obtain ⟨t, ht⟩ : ∃ t, t = ym x y k / 256 ^ k := ⟨_, rfl⟩
   rw [← hu] at k1 hs hux
   rw [← hvv] at hs huy
   rw [← ht] at htop ⊢
   have HV : Hid (v = y.getD k 0) := hvv
   -- the two ways
   have HN : Hid (RelR w (wr.setCell ⟨w.heap.size, k, none⟩ (.int .i64 (((t + (255 + u - v)) % 256 : Nat) : Int))) w.heap.size (digs la (ym x y (k + 1) % 256 ^ (k + 1)))) := by
    show RelR _ _ _ _
    have := hst (255 + u - v)
    rw [← hs, ← ht] at this
    rw [← this]
    exact hR.set k _
   have HT : Hid (ym x y (k + 1) / 256 ^ (k + 1) = (t + (255 + u - v)) / 256) := by
    show _ = _
    rw [hs, Nat.pow_succ, hdv, ← ht]
   have hBw := hR.1
   clear hs hst hdv hR hc1 k10 hu hvv ht
   have ecast : ((1 - t : Nat) : Int) = 1 - (t : Int) := by omega
   rw [ecast]
   clear ecast
   by_cases h2 : k < lb
   ·obtain ⟨g2, o2, rfl, hc2⟩ := hb (by rw [hy.out]; omega)
    have k20 := hc2 k (by rw [hy.out]; omega)
    have k2 := (hBw.cell (p := ⟨g2, o2 + k, none⟩) (block_lt_of_cell k20)).trans k20
    rw [← HV.out] at k2
    clear k20 hc2
    by_cases hneg : u + t < v + 1
    ·have HD : Hid ((((t + (255 + u - v)) % 256 : Nat) : Int) = (u : Int) - (1 - (t : Int)) - (v : Int) + 256) := by show _ = _; omega
     have HT2 : Hid (((1 - (t + (255 + u - v)) / 256 : Nat) : Int) = 1) := by show _ = _; omega
     go_wp2
     go_roundw
     case rel => exact ⟨k + 1, by omega, by go_num, by rw [HT.out, HT2.out], by rw [← HD.out]; exact HN.out⟩
     case measure => simp [intOf]; omega
    ·have HD : Hid ((((t + (255 + u - v)) % 256 : Nat) : Int) = (u : Int) - (1 - (t : Int)) - (v : Int)) := by show _ = _; omega
     have HT2 : Hid (((1 - (t + (255 + u - v)) / 256 : Nat) : Int) = 0) := by show _ = _; omega
     go_wp2
     go_roundw
     case rel => exact ⟨k + 1, by omega, by go_num, by rw [HT.out, HT2.out], by rw [← HD.out]; exact HN.out⟩
     case measure => simp [intOf]; omega
   ·obtain rfl : v = 0 := by rw [HV.out]; exact getD_out (by rw [hy.out]; omega)
    by_cases hneg : u + t < 0 + 1
    ·have HD : Hid ((((t + (255 + u - 0)) % 256 : Nat) : Int) = (u : Int) - (1 - (t : Int)) + 256) := by show _ = _; omega
     have HT2 : Hid (((1 - (t + (255 + u - 0)) / 256 : Nat) : Int) = 1) := by show _ = _; omega
     go_wp2
     go_roundw
     case rel => exact ⟨k + 1, by omega, by go_num, by rw [HT.out, HT2.out], by rw [← HD.out]; exact HN.out⟩
     case measure => simp [intOf]; omega
    ·have HD : Hid ((((t + (255 + u - 0)) % 256 : Nat) : Int) = (u : Int) - (1 - (t : Int))) := by show _ = _; omega
     have HT2 : Hid (((1 - (t + (255 + u - 0)) / 256 : Nat) : Int) = 0) := by show _ = _; omega
     go_wp2
     go_roundw
     case rel => exact ⟨k + 1, by omega, by go_num, by rw [HT.out, HT2.out], by rw [← HD.out]; exact HN.out⟩
     case measure => simp [intOf]; omega
  ·obtain rfl : k = la := by omega
   have HF : Hid (digs k (ym x y k % 256 ^ k) = digs k (valD x - valD y)) := by
    show _ = _
    rw [digs_mod]
    unfold ym
    rw [List.take_of_length_le (by rw [hx.out]; exact Nat.le_refl _), List.take_of_length_le (by rw [hy.out]; omega)]
    have := hv.out
    rw [show valD x + 256 ^ k - valD y = valD x - valD y + 256 ^ k * 1 by omega, ← digs_mod, Nat.add_mul_mod_self_left, digs_mod]
   rw [HF.out] at hR
   go_wp2
   go_ret
   exact ⟨w.heap.size, rfl, hR⟩
/- Plus -/
def xp (x y : List Nat) (k : Nat) : Nat := valD (x.take k) + valD (y.take k)
theorem xp_succ (x y : List Nat) (k : Nat) : xp x y (k + 1) = xp x y k + 256 ^ k * (x.getD k 0 + y.getD k 0) := by
 unfold xp
 rw [valD_take_succ, valD_take_succ, Nat.mul_add]
 omega
theorem xp_top {x y : List Nat} (dx : Dig x) (dy : Dig y) (k : Nat) : xp x y k / 256 ^ k ≤ 1 := by
 have h1 := valD_take_lt dx k
 have h3 := valD_take_lt dy k
 have h2 : xp x y k < 2 * 256 ^ k := by unfold xp; omega
 have := (Nat.div_lt_iff_lt_mul (pos256 k)).2 h2
 omega
theorem plus32m (a : Option Addr) (la ca : Nat) (x : List Nat) (b : Option Addr) (lb cb : Nat) (y : List Nat) (w : World) (n : Nat) (hn : (la < lb ∧ n = lb) ∨ (lb ≤ la ∧ n = la)) (hx : Hid (x.length = la)) (hy : Hid (y.length = lb)) (hla : la ≤ 10000) (hlb : lb ≤ 10000)
  (ha : IView w a x) (hb : IView w b y) (dx : Dig x) (dy : Dig y) :
  Calls Tryz.prog 54 #[.slice a la ca, .slice b lb cb] w fun e w' => ∃ g, e = .returned (.slice (some ⟨g, 0, none⟩) (n + 1) (n + 1)) ∧ RelR w w' g (digs (n + 1) (valD x + valD y)) := by
 have hmk := make31 (n + 1) (by omega)
 simp only [Int.natCast_add, Int.cast_ofNat_Int] at hmk
 have hnl : la ≤ n ∧ lb ≤ n := by omega
 rcases hn with ⟨hn, rfl⟩ | ⟨hn, rfl⟩
 all_goals
  go_enter Tryz.func54, Tryz.ntmps54
  go_wp2_with fail
  have hR0 : RelR w (w.alloc (.cells (ints .i64 (digs (n + 1) 0)) 3)) w.heap.size (digs (n + 1) (xp x y 0 % 256 ^ 0)) := ⟨below1 _ _, Nat.le_refl _, by rw [Nat.pow_zero, Nat.mod_one]; exact alloc_row _ _ _⟩
  go_loopw [7, 8] (fun ca i wr => ∃ k : Nat, k ≤ n + 1 ∧ i = .int .i64 k ∧ ca = .int .i64 ((xp x y k / 256 ^ k : Nat) : Int) ∧ RelR w wr w.heap.size (digs (n + 1) (xp x y k % 256 ^ k))) (fun _ i _ => n + 1 - (intOf i).toNat)
  case atStart => exact ⟨0, by omega, rfl, by simp [xp, valD], hR0⟩
  case round =>
   obtain ⟨k, hk, rfl, rfl, hR⟩ := hrel
   clear hR0 hmk
   by_cases hlt : k < n + 1
   ·have hs := xp_succ x y k
    have htop := xp_top dx dy k
    have hux := dx k
    have huy := dy k
    have c3 := hR.at k (by rw [digs_len]; omega)
    have f3 := hR.free k
    have hst := fun d => digs_step (N := n + 1) (X := xp x y k) (k := k) (d := d) (by omega)
    have hdv := fun d => div_step (xp x y k) (256 ^ k) d (pos256 k)
    obtain ⟨u, hu⟩ : ∃ u, u = x.getD k 0 := ⟨_, rfl⟩
    obtain ⟨v, hvv⟩ : ∃ v, v = y.getD k 0 := ⟨_, rfl⟩
    obtain ⟨t, ht⟩ : ∃ t, t = xp x y k / 256 ^ k := ⟨_, rfl⟩
    rw [← hu] at hs hux
    rw [← hvv] at hs huy
    rw [← ht] at htop ⊢
    have Hu : Hid (u = x.getD k 0) := hu
    have Hv : Hid (v = y.getD k 0) := hvv
    have HN : Hid (RelR w (wr.setCell ⟨w.heap.size, k, none⟩ (.int .i64 (((t + (u + v)) % 256 : Nat) : Int))) w.heap.size (digs (n + 1) (xp x y (k + 1) % 256 ^ (k + 1)))) := by
     show RelR _ _ _ _
     have := hst (u + v)
     rw [← hs, ← ht] at this
     rw [← this]
     exact hR.set k _
    have HT : Hid (xp x y (k + 1) / 256 ^ (k + 1) = (t + (u + v)) / 256) := by
     show _ = _
     rw [hs, Nat.pow_succ, hdv, ← ht]
    have hBw := hR.1
    rw [← Nat.add_assoc] at HN HT
    clear hs hst hdv hR hu hvv ht
    by_cases h1 : k < x.length
    ·by_cases h2 : k < y.length
     ·obtain ⟨g1, o1, rfl, hc1⟩ := ha (by omega)
      have k10 := hc1 k (by omega)
      have k1 := (hBw.cell (p := ⟨g1, o1 + k, none⟩) (block_lt_of_cell k10)).trans k10
      rw [← Hu.out] at k1
      clear k10 hc1
      obtain ⟨g2, o2, rfl, hc2⟩ := hb (by omega)
      have k20 := hc2 k (by omega)
      have k2 := (hBw.cell (p := ⟨g2, o2 + k, none⟩) (block_lt_of_cell k20)).trans k20
      rw [← Hv.out] at k2
      clear k20 hc2
      rw [hx.out] at h1
      rw [hy.out] at h2
      clear ha hb hx hy
      go_wp2
      all_goals
       go_roundw
       case rel => exact ⟨k + 1, by omega, by go_num, by rw [HT.out]; simp, by simpa using HN.out⟩
       case measure => simp [intOf]; omega
     ·obtain ⟨g1, o1, rfl, hc1⟩ := ha (by omega)
      have k10 := hc1 k (by omega)
      have k1 := (hBw.cell (p := ⟨g1, o1 + k, none⟩) (block_lt_of_cell k10)).trans k10
      rw [← Hu.out] at k1
      clear k10 hc1
      obtain rfl : v = 0 := by rw [Hv.out]; exact getD_out (by omega)
      rw [hx.out] at h1
      rw [hy.out] at h2
      clear ha hb hx hy
      go_wp2
      all_goals
       go_roundw
       case rel => exact ⟨k + 1, by omega, by go_num, by rw [HT.out]; simp, by simpa using HN.out⟩
       case measure => simp [intOf]; omega
    ·by_cases h2 : k < y.length
     ·obtain rfl : u = 0 := by rw [Hu.out]; exact getD_out (by omega)
      obtain ⟨g2, o2, rfl, hc2⟩ := hb (by omega)
      have k20 := hc2 k (by omega)
      have k2 := (hBw.cell (p := ⟨g2, o2 + k, none⟩) (block_lt_of_cell k20)).trans k20
      rw [← Hv.out] at k2
      clear k20 hc2
      rw [hx.out] at h1
      rw [hy.out] at h2
      clear ha hb hx hy
      go_wp2
      all_goals
       go_roundw
       case rel => exact ⟨k + 1, by omega, by go_num, by rw [HT.out]; simp, by simpa using HN.out⟩
       case measure => simp [intOf]; omega
     ·obtain rfl : u = 0 := by rw [Hu.out]; exact getD_out (by omega)
      obtain rfl : v = 0 := by rw [Hv.out]; exact getD_out (by omega)
      rw [hx.out] at h1
      rw [hy.out] at h2
      clear ha hb hx hy
      go_wp2
      all_goals
       go_roundw
       case rel => exact ⟨k + 1, by omega, by go_num, by rw [HT.out]; simp, by simpa using HN.out⟩
       case measure => simp [intOf]; omega
   ·obtain rfl : k = n + 1 := by omega
    have HF : Hid (digs (n + 1) (xp x y (n + 1) % 256 ^ (n + 1)) = digs (n + 1) (valD x + valD y)) := by
     show _ = _
     rw [digs_mod]
     unfold xp
     rw [List.take_of_length_le (by rw [hx.out]; omega), List.take_of_length_le (by rw [hy.out]; omega)]
    rw [HF.out] at hR
    clear ha hb hx hy
    go_wp2
    go_ret
    exact ⟨w.heap.size, rfl, hR⟩
theorem plus32 (a : Option Addr) (la ca : Nat) (x : List Nat) (b : Option Addr) (lb cb : Nat) (y : List Nat) (w : World) (hx : x.length = la) (hy : y.length = lb) (hla : la ≤ 10000) (hlb : lb ≤ 10000)
  (ha : IView w a x) (hb : IView w b y) (dx : Dig x) (dy : Dig y) :
  Calls Tryz.prog 54 #[.slice a la ca, .slice b lb cb] w fun e w' => ∃ g, e = .returned (.slice (some ⟨g, 0, none⟩) (max la lb + 1) (max la lb + 1)) ∧ RelR w w' g (digs (max la lb + 1) (valD x + valD y)) :=
 plus32m a la ca x b lb cb y w (max la lb) (by omega) hx hy hla hlb ha hb dx dy
end Go.Proofs.YtabgihjffjlfiaaGreatDoor
set_option linter.unusedVariables false
namespace Go.Proofs.YtabgihjffjlfiaaGreatDoor
open Go.RowKit Go.Sort Go.BigFrame
set_option maxRecDepth 100000
set_option maxHeartbeats 2000000
def Car (w wr : World) (g N c e T : Nat) : Prop := ∃ O : List Nat, O.length = N ∧ Dig O ∧ c < 256 ∧ valD O + 256 ^ e * c = T ∧ RelR w wr g O
theorem RelR.drewN {w wr : World} {g : Nat} {l : List Nat} (h : RelR w wr g l) (n : Nat) : RelR w (wr.drewN n) g l := ⟨below_drewN h.1 n, h.2.1, h.2.2⟩
theorem car_step {O : List Nat} {e c T z v : Nat} (he : e < O.length) (hT : valD O + 256 ^ e * c = T) (hv : v = O.getD e 0 + z + c) : valD (O.set e (v % 256)) + 256 ^ (e + 1) * (v / 256) = T + 256 ^ e * z := by
 have h1 := valD_set O e (v % 256) he
 have h2 : 256 ^ e * v = 256 ^ e * O.getD e 0 + 256 ^ e * z + 256 ^ e * c := by rw [hv, Nat.mul_add, Nat.mul_add]
 have h3 : 256 ^ e * v = 256 ^ e * (v % 256) + 256 ^ e * (256 * (v / 256)) := by rw [← Nat.mul_add, Nat.mod_add_div]
 rw [Nat.pow_succ, Nat.mul_assoc]
 omega
theorem times44 (a : Option Addr) (la ca : Nat) (x : List Nat) (b : Option Addr) (lb cb : Nat) (y : List Nat) (w : World) (hx : Hid (x.length = la)) (hy : Hid (y.length = lb)) (hla : la ≤ 10000) (hlb : lb ≤ 10000)
  (ha : IView w a x) (hb : IView w b y) (dx : Dig x) (dy : Dig y) :
  Calls Tryz.prog 55 #[.slice a la ca, .slice b lb cb] w fun e w' => ∃ g, e = .returned (.slice (some ⟨g, 0, none⟩) (la + lb + 1) (la + lb + 1)) ∧ RelR w w' g (digs (la + lb + 1) (valD x * valD y)) := by
 obtain ⟨N, hN⟩ : ∃ N, N = la + lb + 1 := ⟨_, rfl⟩
 have hmk := make31 N (by omega)
 have HNN : Hid (N = la + lb + 1) := hN
 rw [← hN]
 have hNi : (la : Int) + (lb : Int) + 1 = (N : Int) := by omega
 have hNl : la + lb < N := by omega
 clear hN
 go_enter Tryz.func55, Tryz.ntmps55
 go_wp2_with fail
 have hR0 : Car w (w.alloc (.cells (ints .i64 (digs N 0)) 3)) w.heap.size N 0 0 (valD (x.take 0) * valD y) :=
  ⟨digs N 0, digs_len _ _, digs_dig _ _, by omega, by rw [valD_digs]; simp [valD], below1 _ _, Nat.le_refl _, alloc_row _ _ _⟩
 go_loopw [6] (fun i wr => ∃ k : Nat, k ≤ la ∧ i = .int .i64 k ∧ Car w wr w.heap.size N 0 0 (valD (x.take k) * valD y)) (fun i _ => la - (intOf i).toNat)
 case atStart => exact ⟨0, by omega, rfl, hR0⟩
 case round =>
  obtain ⟨i, hi, rfl, hR⟩ := hrel
  clear hR0 hmk
  by_cases hlt : i < la
  ·obtain ⟨g1, o1, rfl, hc1⟩ := ha (by rw [hx.out]; omega)
   have k10 := hc1 i (by rw [hx.out]; omega)
   have hg1 := block_lt_of_cell k10
   obtain ⟨u, hu⟩ : ∃ u, u = x.getD i 0 := ⟨_, rfl⟩
   have hul : u < 256 := by rw [hu]; exact dx i
   rw [← hu] at k10
   have HX : Hid (valD (x.take (i + 1)) * valD y = valD (x.take i) * valD y + 256 ^ i * (u * valD y)) := by
    show _ = _
    rw [valD_take_succ, ← hu, Nat.add_mul, Nat.mul_assoc]
   have HLT : Hid (valD (x.take (i + 1)) * valD y < 256 ^ (la + lb)) := by
    have h1 := valD_take_lt dx (i + 1)
    have h2 := valD_lt dy
    rw [hy.out] at h2
    show _ < _
    have h3 : 256 ^ (i + 1) ≤ 256 ^ la := Nat.pow_le_pow_right (by decide) hlt
    rw [Nat.pow_add]
    exact Nat.lt_of_le_of_lt (Nat.mul_le_mul_left _ (Nat.le_of_lt h2)) (Nat.mul_lt_mul_of_pos_right (Nat.lt_of_lt_of_le h1 h3) (pos256 lb))
   obtain ⟨T, hT⟩ : ∃ T, T = valD (x.take i) * valD y := ⟨_, rfl⟩
   rw [← hT] at HX hR
   clear hu hc1 hT
   have hR1 : Car w wr w.heap.size N 0 (i + 0) (T + 256 ^ i * (u * valD (y.take 0))) := by
    obtain ⟨O, h1, h2, h3, h4, h5⟩ := hR
    exact ⟨O, h1, h2, h3, by simp [valD] at h4 ⊢; exact h4, h5⟩
   clear hR
   go_wp2_with fail
   go_loopw [7, 8] (fun c jj wr => ∃ j cc : Nat, j ≤ lb ∧ jj = .int .i64 j ∧ c = .int .i64 cc ∧ Car w wr w.heap.size N cc (i + j) (T + 256 ^ i * (u * valD (y.take j)))) (fun _ jj _ => lb - (intOf jj).toNat)
   case atStart => exact ⟨0, 0, by omega, rfl, rfl, hR1⟩
   case round =>
    obtain ⟨j, c, hj, rfl, rfl, hR⟩ := hrel
    clear hR1
    by_cases hlt2 : j < lb
    ·obtain ⟨O, hOl, hOd, hcl, hOT, hRR⟩ := hR
     obtain ⟨g2, o2, rfl, hc2⟩ := hb (by rw [hy.out]; omega)
     have k20 := hc2 j (by rw [hy.out]; omega)
     have hg2 := block_lt_of_cell k20
     have k1 := (hRR.1.cell (p := ⟨g1, o1 + i, none⟩) hg1).trans k10
     have k2 := (hRR.1.cell (p := ⟨g2, o2 + j, none⟩) hg2).trans k20
     have k3 := hRR.at (i + j) (by omega)
     have f3 := hRR.free (i + j)
     obtain ⟨v, hv⟩ : ∃ v, v = y.getD j 0 := ⟨_, rfl⟩
     obtain ⟨o, ho⟩ : ∃ o, o = O.getD (i + j) 0 := ⟨_, rfl⟩
     have hvl : v < 256 := by rw [hv]; exact dy j
     have hol : o < 256 := by rw [ho]; exact hOd _
     rw [← hv] at k2
     rw [← ho] at k3
     obtain ⟨p, hp⟩ : ∃ p, p = u * v := ⟨_, rfl⟩
     have hpl : p ≤ 65025 := by rw [hp]; exact Nat.mul_le_mul (by omega : u ≤ 255) (by omega : v ≤ 255)
     have ip : (u : Int) * (v : Int) = (p : Int) := by rw [hp]; simp
     have hstep := car_step (O := O) (e := i + j) (c := c) (z := p) (v := o + p + c) (by omega) hOT (by rw [ho])
     have HN : Hid (∀ nq, Car w ((wr.drewN nq).setCell ⟨w.heap.size, i + j, none⟩ (.int .i64 (((o + p + c) % 256 : Nat) : Int))) w.heap.size N ((o + p + c) / 256) (i + (j + 1)) (T + 256 ^ i * (u * valD (y.take (j + 1))))) := by
      intro nq
      refine ⟨O.set (i + j) ((o + p + c) % 256), by rw [List.length_set]; exact hOl, hOd.set (Nat.mod_lt _ (by decide)), by omega, ?_, (hRR.drewN nq).set _ _⟩
      rw [show i + (j + 1) = i + j + 1 by omega, hstep, valD_take_succ, ← hv, Nat.mul_add, Nat.mul_add, hp, ← Nat.add_assoc]
      congr 1
      rw [Nat.pow_add]
      grind
     clear hstep hOT hRR hOd hv ho hp hc2 k20
     go_wp2_with fail
     go_quiet (fail)
     go_wp2
     go_roundw
     case rel => exact ⟨j + 1, (o + p + c) / 256, by omega, by go_num, by go_num, by simpa using HN.out _⟩
     case measure => simp [intOf]; omega
    ·obtain rfl : j = lb := by omega
     rw [List.take_of_length_le (by rw [hy.out]; exact Nat.le_refl _)] at hR
     rw [← HX.out] at hR
     obtain ⟨S, hS⟩ : ∃ S, S = valD (x.take (i + 1)) * valD y := ⟨_, rfl⟩
     have HS : Hid (S = valD (x.take (i + 1)) * valD y) := hS
     rw [← hS] at hR HLT
     clear hS HX
     go_wp2_with fail
     go_loopw [7, 10] (fun c kk wr => ∃ k cc : Nat, k ≤ N ∧ kk = .int .i64 k ∧ c = .int .i64 cc ∧ Car w wr w.heap.size N cc k S) (fun _ kk _ => N + 1 - (intOf kk).toNat)
     case atStart => exact ⟨i + j, c, by omega, by go_num, rfl, hR⟩
     case round =>
      obtain ⟨k, c2, hk, rfl, rfl, hR⟩ := hrel
      obtain ⟨O, hOl, hOd, hcl, hOT, hRR⟩ := hR
      by_cases hc0 : c2 = 0
      ·subst hc0
       have HN : Hid (Car w wr w.heap.size N 0 0 (valD (x.take (i + 1)) * valD y)) := ⟨O, hOl, hOd, by omega, by rw [← HS.out, ← hOT]; simp, hRR⟩
       clear hOT hRR hOd
       go_wp2
       go_roundw
       case rel => exact ⟨i + 1, by omega, by go_num, HN.out⟩
       case measure => simp [intOf]; omega
      ·have hkN : k < N := by
        have h1 := HLT.out
        have h2 : 256 ^ k * 1 ≤ 256 ^ k * c2 := Nat.mul_le_mul_left _ (by omega)
        have h3 : 256 ^ k < 256 ^ (la + j) := by omega
        have := (Nat.pow_lt_pow_iff_right (by decide : 1 < 256)).1 h3
        omega
       have k3 := hRR.at k (by omega)
       have f3 := hRR.free k
       obtain ⟨o, ho⟩ : ∃ o, o = O.getD k 0 := ⟨_, rfl⟩
       have hol : o < 256 := by rw [ho]; exact hOd _
       rw [← ho] at k3
       have hstep := car_step (O := O) (e := k) (c := c2) (z := 0) (v := o + c2) (by omega) hOT (by rw [ho]; omega)
       have HN : Hid (Car w (wr.setCell ⟨w.heap.size, k, none⟩ (.int .i64 (((o + c2) % 256 : Nat) : Int))) w.heap.size N ((o + c2) / 256) (k + 1) S) := by
        refine ⟨O.set k ((o + c2) % 256), by rw [List.length_set]; exact hOl, hOd.set (Nat.mod_lt _ (by decide)), by omega, ?_, hRR.set _ _⟩
        rw [hstep, Nat.mul_zero, Nat.add_zero]
       have hcp : (0 : Int) < (c2 : Int) := by omega
       clear hstep hOT hRR hOd ho
       go_wp2
       go_roundw
       case rel => exact ⟨k + 1, (o + c2) / 256, by omega, by go_num, by go_num, by simpa using HN.out⟩
       case measure => simp [intOf]; omega
  ·obtain rfl : i = la := by omega
   rw [List.take_of_length_le (by rw [hx.out]; exact Nat.le_refl _)] at hR
   obtain ⟨O, hOl, hOd, hcl, hOT, hRR⟩ := hR
   have HD : Hid (O = digs N (valD x * valD y)) := digs_of hOd hOl (by rw [← hOT]; simp)
   rw [HD.out] at hRR
   clear hOT hOd hOl
   go_wp2
   go_ret
   exact ⟨w.heap.size, rfl, hRR⟩
end Go.Proofs.YtabgihjffjlfiaaGreatDoor
set_option linter.unusedVariables false
namespace Go.Proofs.YtabgihjffjlfiaaGreatDoor
open Go.RowKit
section
variable {P : Program} {md : Region.Mode} {ops : Array Oper} {Q : Exit → Act → World → Prop} {S : World → Prop} {z : Nat}
def wpZ (P : Program) (md : Region.Mode) (ops : Array Oper) (Q : Exit → Act → World → Prop) (S : World → Prop) (z : Nat) : Nat → Array Bool → Act → World → Prop
 | 0 => fun listed a w => Region.ready md ops listed = [] ∧ Q .normal a w
 | n + 1 => fun listed a w => (Region.ready md ops listed = [] → Q .normal a w) ∧
  ∀ i ∈ Region.ready md ops listed, wpOp P ops Q i (fun a' w' => (i ≠ z → S w') ∧ wpZ P md ops Q S z n (listed.setIfInBounds i true) a' w') a w
theorem wpAny_of_Z : ∀ (n : Nat) (listed : Array Bool) (a : Act) (w : World), wpZ P md ops Q S z n listed a w → wpAny P md ops Q n listed a w
 | 0, _, _, _, h => h
 | n + 1, _, _, _, h => ⟨h.1, fun i hi => wpOp_mono (fun a' w' h' => wpAny_of_Z n _ a' w' h'.2) (h.2 i hi)⟩
theorem unlisted {listed : Array Bool} {i : Nat} (h : listed.getD i true = false) : listed.getD i false = false := getD_both h
theorem first_Z {i : Nat} {oi : Oper} {v : Value} (hi : ops[i]? = some oi) (hsel : ∀ (j : Nat) (o : Oper) cs b, ops[j]? = some o → o.op ≠ .select cs b)
  (hQ : ∀ c a w, Q (.panic c) (a.put oi.dst v) w → Q (.panic c) a w) (hz : Region.waitsFor md ops z i = true) (n : Nat) :
  ∀ (listed : Array Bool) (a : Act) (w : World),
   (∀ j oj, ops[j]? = some oj → j ≠ i → listed.getD j true = false → (∀ e ∈ oj.after, Region.binds md e = true → e.on ≠ i) → oi.apart ops oj = true) →
   i ∈ Region.ready md ops listed → YieldsIf P ops S oi v a → S w → wpZ P md ops Q S z n (listed.setIfInBounds i true) (a.put oi.dst v) w → wpZ P md ops Q S z (n + 1) listed a w := by
 induction n with
 | zero =>
  intro listed a w _ hr hy hS H
  refine ⟨fun h => absurd hr (by rw [h]; exact List.not_mem_nil), fun j hj => ?_⟩
  by_cases e : j = i
  ·rw [e]; exact hy.wpOp hi hS ⟨fun _ => hS, H⟩
  ·exact absurd (ready_mono hj e) (by rw [H.1]; exact List.not_mem_nil)
 | succ n ih =>
  intro listed a w hf hr hy hS H
  refine ⟨fun h => absurd hr (by rw [h]; exact List.not_mem_nil), fun j hj => ?_⟩
  by_cases e : j = i
  ·rw [e]; exact hy.wpOp hi hS ⟨fun _ => hS, H⟩
  ·obtain ⟨hju, oj, hoj, hw⟩ := mem_ready.1 hj
   have hiu := unlisted (mem_ready.1 hr).1
   have hno : ∀ d ∈ oj.after, Region.binds md d = true → d.on ≠ i := fun d hd hb he => by
    have := hw d hd hb
    rw [he, hiu] at this; cases this
   have hjz : j ≠ z := fun ez => by
    obtain ⟨oz, hoz, d, hd, hb, he⟩ := Region.waitsFor_spec hz
    rw [← ez, hoj] at hoz
    cases hoz
    exact hno d hd hb he
   have h2 := wpOp_putIf hoj (hf j oj hoj e hju hno) (fun cs b => hsel i oi cs b hi) (fun cs b => hsel j oj cs b hoj) hQ hy (H.2 j (ready_mono hj e))
   refine wpOp_mono (fun a' w' h3 => ⟨fun _ => h3.2.1 hjz, ih (listed.setIfInBounds j true) a' w' (fun k ok hk hki hku hkn => hf k ok hk hki ?_ hkn) (ready_mono hr (Ne.symm e)) h3.1 (h3.2.1 hjz) ?_⟩) h2
   ·by_cases ejk : j = k
    ·rw [← ejk]; exact hju
    ·rwa [getD_set_ne true ejk] at hku
   ·rw [Array.setIfInBounds_comm _ _ e]; exact h3.2.2
theorem wp_region_Z {id : Nat} {a : Act} {w : World} (S : World → Prop) (z : Nat) (hm : P.follows .mixedOrders = true)
  (h : wpZ P .any ops Q S z ops.size (Array.replicate ops.size false) a { w with drawn := w.drawn + 1 }) : (Code.region id ops true).wp P Q a w :=
 wp_region_any hm (wpAny_of_Z _ _ _ _ h)
theorem takeZ {i : Nat} {v : Value} {n : Nat} {listed : Array Bool} {a : Act} {w : World} (dst : Option Tmp) (oi : Oper) (hi : ops[i]? = some oi) (hd : oi.dst = dst)
  (hs : (Region.noSelect ops && Region.free .any ops listed i && (Region.ready .any ops listed).contains i && Region.waitsFor .any ops z i) = true)
  (hQ : ∀ c a w, Q (.panic c) (a.put oi.dst v) w → Q (.panic c) a w) (hy : YieldsIf P ops S oi v a) (hS : S w)
  (h : wpZ P .any ops Q S z n (listed.setIfInBounds i true) (a.put dst v) w) : wpZ P .any ops Q S z (n + 1) listed a w := by
 simp only [Bool.and_eq_true] at hs
 exact first_Z hi (Region.noSelect_spec hs.1.1.1) hQ hs.2 n listed a w (Region.free_spec hi hs.1.1.2) (by simpa using hs.1.2) hy hS (by rw [hd]; exact h)
theorem oneZ {i : Nat} {n : Nat} {listed : Array Bool} {a : Act} {w : World} (hr : Region.ready .any ops listed = [i])
  (h : wpOp P ops Q i (fun a' w' => (i ≠ z → S w') ∧ wpZ P .any ops Q S z n (listed.setIfInBounds i true) a' w') a w) : wpZ P .any ops Q S z (n + 1) listed a w :=
 ⟨fun h0 => absurd (hr.symm.trans h0) (by simp), fun j hj => by rw [hr] at hj; obtain rfl := List.mem_singleton.1 hj; exact h⟩
theorem doneZ {listed : Array Bool} {a : Act} {w : World} (hr : Region.ready .any ops listed = []) (h : Q .normal a w) : ∀ n, wpZ P .any ops Q S z n listed a w
 | 0 => ⟨hr, h⟩
 | _ + 1 => ⟨fun _ => h, by rw [hr]; simp⟩
theorem new_at {i : Nat} {o : Oper} {K : Act → World → Prop} {a : Act} {w : World} (dst : Option Tmp) (v : Value) (ob : Obj) (hi : ops[i]? = some o) (hg : o.guard = none) (hd : o.dst = dst)
  (hr : (execOp a.eval o).run P w = .ok (.value v) (w.alloc ob)) (h : K (a.put dst v) (w.alloc ob)) : wpOp P ops Q i K a w := by
 refine wpOp_of_wp hi hg ?_
 unfold Oper.wp
 rw [hr]
 subst hd
 exact h
theorem store1_at {i : Nat} {o : Oper} {K : Act → World → Prop} {a : Act} {w : World} {p : Addr} (v : Value) (hi : ops[i]? = some o) (hg : o.guard = none) (hd : o.dst = none)
  (hr : (execOp a.eval o).run P w = .ok .skip (w.setCell p v)) (h : K a (w.setCell p v)) : wpOp P ops Q i K a w := by
 refine wpOp_of_wp hi hg ?_
 unfold Oper.wp
 rw [hr]
 show K (a.put o.dst undef) _
 rw [hd]
 exact h
end
end Go.Proofs.YtabgihjffjlfiaaGreatDoor
