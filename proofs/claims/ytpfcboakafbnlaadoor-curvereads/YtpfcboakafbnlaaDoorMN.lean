/-
  Numbers for ofBytes: one byte more.
-/
import Derived.Test.YtpfcboakafbnlaaDoorMD
set_option linter.unusedVariables false
namespace Go.Proofs.YtpfcboakafbnlaaDoor
theorem ss0 (V c : Nat) (hV : V < 1) (hc : c < 256) : (splitE V).list.getD 0 0 < 1 ∧ (splitE V).list.getD 1 0 = 0 ∧ (((splitE V).list.set 0 ((splitE V).list.getD 0 0 + c * 1 % 2251799813685248)).set 1 (c / 2251799813685248)) = (splitE (V + 1 * c)).list := by
  simp only [splitE, E5.list, List.set_cons_succ, List.set_cons_zero, List.getD_cons_succ, List.getD_cons_zero, List.cons.injEq, and_true]
  omega
theorem ss1 (V c : Nat) (hV : V < 256) (hc : c < 256) : (splitE V).list.getD 0 0 < 256 ∧ (splitE V).list.getD 1 0 = 0 ∧ (((splitE V).list.set 0 ((splitE V).list.getD 0 0 + c * 256 % 2251799813685248)).set 1 (c / 8796093022208)) = (splitE (V + 256 * c)).list := by
  simp only [splitE, E5.list, List.set_cons_succ, List.set_cons_zero, List.getD_cons_succ, List.getD_cons_zero, List.cons.injEq, and_true]
  omega
theorem ss2 (V c : Nat) (hV : V < 65536) (hc : c < 256) : (splitE V).list.getD 0 0 < 65536 ∧ (splitE V).list.getD 1 0 = 0 ∧ (((splitE V).list.set 0 ((splitE V).list.getD 0 0 + c * 65536 % 2251799813685248)).set 1 (c / 34359738368)) = (splitE (V + 65536 * c)).list := by
  simp only [splitE, E5.list, List.set_cons_succ, List.set_cons_zero, List.getD_cons_succ, List.getD_cons_zero, List.cons.injEq, and_true]
  omega
theorem ss3 (V c : Nat) (hV : V < 16777216) (hc : c < 256) : (splitE V).list.getD 0 0 < 16777216 ∧ (splitE V).list.getD 1 0 = 0 ∧ (((splitE V).list.set 0 ((splitE V).list.getD 0 0 + c * 16777216 % 2251799813685248)).set 1 (c / 134217728)) = (splitE (V + 16777216 * c)).list := by
  simp only [splitE, E5.list, List.set_cons_succ, List.set_cons_zero, List.getD_cons_succ, List.getD_cons_zero, List.cons.injEq, and_true]
  omega
theorem ss4 (V c : Nat) (hV : V < 4294967296) (hc : c < 256) : (splitE V).list.getD 0 0 < 4294967296 ∧ (splitE V).list.getD 1 0 = 0 ∧ (((splitE V).list.set 0 ((splitE V).list.getD 0 0 + c * 4294967296 % 2251799813685248)).set 1 (c / 524288)) = (splitE (V + 4294967296 * c)).list := by
  simp only [splitE, E5.list, List.set_cons_succ, List.set_cons_zero, List.getD_cons_succ, List.getD_cons_zero, List.cons.injEq, and_true]
  omega
theorem ss5 (V c : Nat) (hV : V < 1099511627776) (hc : c < 256) : (splitE V).list.getD 0 0 < 1099511627776 ∧ (splitE V).list.getD 1 0 = 0 ∧ (((splitE V).list.set 0 ((splitE V).list.getD 0 0 + c * 1099511627776 % 2251799813685248)).set 1 (c / 2048)) = (splitE (V + 1099511627776 * c)).list := by
  simp only [splitE, E5.list, List.set_cons_succ, List.set_cons_zero, List.getD_cons_succ, List.getD_cons_zero, List.cons.injEq, and_true]
  omega
theorem ss6 (V c : Nat) (hV : V < 281474976710656) (hc : c < 256) : (splitE V).list.getD 0 0 < 281474976710656 ∧ (splitE V).list.getD 1 0 = 0 ∧ (((splitE V).list.set 0 ((splitE V).list.getD 0 0 + c * 281474976710656 % 2251799813685248)).set 1 (c / 8)) = (splitE (V + 281474976710656 * c)).list := by
  simp only [splitE, E5.list, List.set_cons_succ, List.set_cons_zero, List.getD_cons_succ, List.getD_cons_zero, List.cons.injEq, and_true]
  omega
theorem ss7 (V c : Nat) (hV : V < 72057594037927936) (hc : c < 256) : (splitE V).list.getD 1 0 < 32 ∧ (splitE V).list.getD 2 0 = 0 ∧ (((splitE V).list.set 1 ((splitE V).list.getD 1 0 + c * 32 % 2251799813685248)).set 2 (c / 70368744177664)) = (splitE (V + 72057594037927936 * c)).list := by
  simp only [splitE, E5.list, List.set_cons_succ, List.set_cons_zero, List.getD_cons_succ, List.getD_cons_zero, List.cons.injEq, and_true]
  omega
theorem ss8 (V c : Nat) (hV : V < 18446744073709551616) (hc : c < 256) : (splitE V).list.getD 1 0 < 8192 ∧ (splitE V).list.getD 2 0 = 0 ∧ (((splitE V).list.set 1 ((splitE V).list.getD 1 0 + c * 8192 % 2251799813685248)).set 2 (c / 274877906944)) = (splitE (V + 18446744073709551616 * c)).list := by
  simp only [splitE, E5.list, List.set_cons_succ, List.set_cons_zero, List.getD_cons_succ, List.getD_cons_zero, List.cons.injEq, and_true]
  omega
theorem ss9 (V c : Nat) (hV : V < 4722366482869645213696) (hc : c < 256) : (splitE V).list.getD 1 0 < 2097152 ∧ (splitE V).list.getD 2 0 = 0 ∧ (((splitE V).list.set 1 ((splitE V).list.getD 1 0 + c * 2097152 % 2251799813685248)).set 2 (c / 1073741824)) = (splitE (V + 4722366482869645213696 * c)).list := by
  simp only [splitE, E5.list, List.set_cons_succ, List.set_cons_zero, List.getD_cons_succ, List.getD_cons_zero, List.cons.injEq, and_true]
  omega
theorem ss10 (V c : Nat) (hV : V < 1208925819614629174706176) (hc : c < 256) : (splitE V).list.getD 1 0 < 536870912 ∧ (splitE V).list.getD 2 0 = 0 ∧ (((splitE V).list.set 1 ((splitE V).list.getD 1 0 + c * 536870912 % 2251799813685248)).set 2 (c / 4194304)) = (splitE (V + 1208925819614629174706176 * c)).list := by
  simp only [splitE, E5.list, List.set_cons_succ, List.set_cons_zero, List.getD_cons_succ, List.getD_cons_zero, List.cons.injEq, and_true]
  omega
theorem ss11 (V c : Nat) (hV : V < 309485009821345068724781056) (hc : c < 256) : (splitE V).list.getD 1 0 < 137438953472 ∧ (splitE V).list.getD 2 0 = 0 ∧ (((splitE V).list.set 1 ((splitE V).list.getD 1 0 + c * 137438953472 % 2251799813685248)).set 2 (c / 16384)) = (splitE (V + 309485009821345068724781056 * c)).list := by
  simp only [splitE, E5.list, List.set_cons_succ, List.set_cons_zero, List.getD_cons_succ, List.getD_cons_zero, List.cons.injEq, and_true]
  omega
theorem ss12 (V c : Nat) (hV : V < 79228162514264337593543950336) (hc : c < 256) : (splitE V).list.getD 1 0 < 35184372088832 ∧ (splitE V).list.getD 2 0 = 0 ∧ (((splitE V).list.set 1 ((splitE V).list.getD 1 0 + c * 35184372088832 % 2251799813685248)).set 2 (c / 64)) = (splitE (V + 79228162514264337593543950336 * c)).list := by
  simp only [splitE, E5.list, List.set_cons_succ, List.set_cons_zero, List.getD_cons_succ, List.getD_cons_zero, List.cons.injEq, and_true]
  omega
theorem ss13 (V c : Nat) (hV : V < 20282409603651670423947251286016) (hc : c < 256) : (splitE V).list.getD 2 0 < 4 ∧ (splitE V).list.getD 3 0 = 0 ∧ (((splitE V).list.set 2 ((splitE V).list.getD 2 0 + c * 4 % 2251799813685248)).set 3 (c / 562949953421312)) = (splitE (V + 20282409603651670423947251286016 * c)).list := by
  simp only [splitE, E5.list, List.set_cons_succ, List.set_cons_zero, List.getD_cons_succ, List.getD_cons_zero, List.cons.injEq, and_true]
  omega
theorem ss14 (V c : Nat) (hV : V < 5192296858534827628530496329220096) (hc : c < 256) : (splitE V).list.getD 2 0 < 1024 ∧ (splitE V).list.getD 3 0 = 0 ∧ (((splitE V).list.set 2 ((splitE V).list.getD 2 0 + c * 1024 % 2251799813685248)).set 3 (c / 2199023255552)) = (splitE (V + 5192296858534827628530496329220096 * c)).list := by
  simp only [splitE, E5.list, List.set_cons_succ, List.set_cons_zero, List.getD_cons_succ, List.getD_cons_zero, List.cons.injEq, and_true]
  omega
theorem ss15 (V c : Nat) (hV : V < 1329227995784915872903807060280344576) (hc : c < 256) : (splitE V).list.getD 2 0 < 262144 ∧ (splitE V).list.getD 3 0 = 0 ∧ (((splitE V).list.set 2 ((splitE V).list.getD 2 0 + c * 262144 % 2251799813685248)).set 3 (c / 8589934592)) = (splitE (V + 1329227995784915872903807060280344576 * c)).list := by
  simp only [splitE, E5.list, List.set_cons_succ, List.set_cons_zero, List.getD_cons_succ, List.getD_cons_zero, List.cons.injEq, and_true]
  omega
theorem ss16 (V c : Nat) (hV : V < 340282366920938463463374607431768211456) (hc : c < 256) : (splitE V).list.getD 2 0 < 67108864 ∧ (splitE V).list.getD 3 0 = 0 ∧ (((splitE V).list.set 2 ((splitE V).list.getD 2 0 + c * 67108864 % 2251799813685248)).set 3 (c / 33554432)) = (splitE (V + 340282366920938463463374607431768211456 * c)).list := by
  simp only [splitE, E5.list, List.set_cons_succ, List.set_cons_zero, List.getD_cons_succ, List.getD_cons_zero, List.cons.injEq, and_true]
  omega
theorem ss17 (V c : Nat) (hV : V < 87112285931760246646623899502532662132736) (hc : c < 256) : (splitE V).list.getD 2 0 < 17179869184 ∧ (splitE V).list.getD 3 0 = 0 ∧ (((splitE V).list.set 2 ((splitE V).list.getD 2 0 + c * 17179869184 % 2251799813685248)).set 3 (c / 131072)) = (splitE (V + 87112285931760246646623899502532662132736 * c)).list := by
  simp only [splitE, E5.list, List.set_cons_succ, List.set_cons_zero, List.getD_cons_succ, List.getD_cons_zero, List.cons.injEq, and_true]
  omega
theorem ss18 (V c : Nat) (hV : V < 22300745198530623141535718272648361505980416) (hc : c < 256) : (splitE V).list.getD 2 0 < 4398046511104 ∧ (splitE V).list.getD 3 0 = 0 ∧ (((splitE V).list.set 2 ((splitE V).list.getD 2 0 + c * 4398046511104 % 2251799813685248)).set 3 (c / 512)) = (splitE (V + 22300745198530623141535718272648361505980416 * c)).list := by
  simp only [splitE, E5.list, List.set_cons_succ, List.set_cons_zero, List.getD_cons_succ, List.getD_cons_zero, List.cons.injEq, and_true]
  omega
theorem ss19 (V c : Nat) (hV : V < 5708990770823839524233143877797980545530986496) (hc : c < 256) : (splitE V).list.getD 2 0 < 1125899906842624 ∧ (splitE V).list.getD 3 0 = 0 ∧ (((splitE V).list.set 2 ((splitE V).list.getD 2 0 + c * 1125899906842624 % 2251799813685248)).set 3 (c / 2)) = (splitE (V + 5708990770823839524233143877797980545530986496 * c)).list := by
  simp only [splitE, E5.list, List.set_cons_succ, List.set_cons_zero, List.getD_cons_succ, List.getD_cons_zero, List.cons.injEq, and_true]
  omega
theorem ss20 (V c : Nat) (hV : V < 1461501637330902918203684832716283019655932542976) (hc : c < 256) : (splitE V).list.getD 3 0 < 128 ∧ (splitE V).list.getD 4 0 = 0 ∧ (((splitE V).list.set 3 ((splitE V).list.getD 3 0 + c * 128 % 2251799813685248)).set 4 (c / 17592186044416)) = (splitE (V + 1461501637330902918203684832716283019655932542976 * c)).list := by
  simp only [splitE, E5.list, List.set_cons_succ, List.set_cons_zero, List.getD_cons_succ, List.getD_cons_zero, List.cons.injEq, and_true]
  omega
theorem ss21 (V c : Nat) (hV : V < 374144419156711147060143317175368453031918731001856) (hc : c < 256) : (splitE V).list.getD 3 0 < 32768 ∧ (splitE V).list.getD 4 0 = 0 ∧ (((splitE V).list.set 3 ((splitE V).list.getD 3 0 + c * 32768 % 2251799813685248)).set 4 (c / 68719476736)) = (splitE (V + 374144419156711147060143317175368453031918731001856 * c)).list := by
  simp only [splitE, E5.list, List.set_cons_succ, List.set_cons_zero, List.getD_cons_succ, List.getD_cons_zero, List.cons.injEq, and_true]
  omega
theorem ss22 (V c : Nat) (hV : V < 95780971304118053647396689196894323976171195136475136) (hc : c < 256) : (splitE V).list.getD 3 0 < 8388608 ∧ (splitE V).list.getD 4 0 = 0 ∧ (((splitE V).list.set 3 ((splitE V).list.getD 3 0 + c * 8388608 % 2251799813685248)).set 4 (c / 268435456)) = (splitE (V + 95780971304118053647396689196894323976171195136475136 * c)).list := by
  simp only [splitE, E5.list, List.set_cons_succ, List.set_cons_zero, List.getD_cons_succ, List.getD_cons_zero, List.cons.injEq, and_true]
  omega
theorem ss23 (V c : Nat) (hV : V < 24519928653854221733733552434404946937899825954937634816) (hc : c < 256) : (splitE V).list.getD 3 0 < 2147483648 ∧ (splitE V).list.getD 4 0 = 0 ∧ (((splitE V).list.set 3 ((splitE V).list.getD 3 0 + c * 2147483648 % 2251799813685248)).set 4 (c / 1048576)) = (splitE (V + 24519928653854221733733552434404946937899825954937634816 * c)).list := by
  simp only [splitE, E5.list, List.set_cons_succ, List.set_cons_zero, List.getD_cons_succ, List.getD_cons_zero, List.cons.injEq, and_true]
  omega
theorem ss24 (V c : Nat) (hV : V < 6277101735386680763835789423207666416102355444464034512896) (hc : c < 256) : (splitE V).list.getD 3 0 < 549755813888 ∧ (splitE V).list.getD 4 0 = 0 ∧ (((splitE V).list.set 3 ((splitE V).list.getD 3 0 + c * 549755813888 % 2251799813685248)).set 4 (c / 4096)) = (splitE (V + 6277101735386680763835789423207666416102355444464034512896 * c)).list := by
  simp only [splitE, E5.list, List.set_cons_succ, List.set_cons_zero, List.getD_cons_succ, List.getD_cons_zero, List.cons.injEq, and_true]
  omega
theorem ss25 (V c : Nat) (hV : V < 1606938044258990275541962092341162602522202993782792835301376) (hc : c < 256) : (splitE V).list.getD 3 0 < 140737488355328 ∧ (splitE V).list.getD 4 0 = 0 ∧ (((splitE V).list.set 3 ((splitE V).list.getD 3 0 + c * 140737488355328 % 2251799813685248)).set 4 (c / 16)) = (splitE (V + 1606938044258990275541962092341162602522202993782792835301376 * c)).list := by
  simp only [splitE, E5.list, List.set_cons_succ, List.set_cons_zero, List.getD_cons_succ, List.getD_cons_zero, List.cons.injEq, and_true]
  omega
theorem ss26 (V c : Nat) (hV : V < 411376139330301510538742295639337626245683966408394965837152256) (hc : c < 256) : (splitE V).list.getD 4 0 < 16 ∧ (splitE V).list.getD 5 0 = 0 ∧ (((splitE V).list.set 4 ((splitE V).list.getD 4 0 + c * 16 % 2251799813685248)).set 5 (c / 140737488355328)) = (splitE (V + 411376139330301510538742295639337626245683966408394965837152256 * c)).list := by
  simp only [splitE, E5.list, List.set_cons_succ, List.set_cons_zero, List.getD_cons_succ, List.getD_cons_zero, List.set_nil, List.getD_nil, List.cons.injEq, and_true, true_and]
  omega
theorem ss27 (V c : Nat) (hV : V < 105312291668557186697918027683670432318895095400549111254310977536) (hc : c < 256) : (splitE V).list.getD 4 0 < 4096 ∧ (splitE V).list.getD 5 0 = 0 ∧ (((splitE V).list.set 4 ((splitE V).list.getD 4 0 + c * 4096 % 2251799813685248)).set 5 (c / 549755813888)) = (splitE (V + 105312291668557186697918027683670432318895095400549111254310977536 * c)).list := by
  simp only [splitE, E5.list, List.set_cons_succ, List.set_cons_zero, List.getD_cons_succ, List.getD_cons_zero, List.set_nil, List.getD_nil, List.cons.injEq, and_true, true_and]
  omega
theorem ss28 (V c : Nat) (hV : V < 26959946667150639794667015087019630673637144422540572481103610249216) (hc : c < 256) : (splitE V).list.getD 4 0 < 1048576 ∧ (splitE V).list.getD 5 0 = 0 ∧ (((splitE V).list.set 4 ((splitE V).list.getD 4 0 + c * 1048576 % 2251799813685248)).set 5 (c / 2147483648)) = (splitE (V + 26959946667150639794667015087019630673637144422540572481103610249216 * c)).list := by
  simp only [splitE, E5.list, List.set_cons_succ, List.set_cons_zero, List.getD_cons_succ, List.getD_cons_zero, List.set_nil, List.getD_nil, List.cons.injEq, and_true, true_and]
  omega
theorem ss29 (V c : Nat) (hV : V < 6901746346790563787434755862277025452451108972170386555162524223799296) (hc : c < 256) : (splitE V).list.getD 4 0 < 268435456 ∧ (splitE V).list.getD 5 0 = 0 ∧ (((splitE V).list.set 4 ((splitE V).list.getD 4 0 + c * 268435456 % 2251799813685248)).set 5 (c / 8388608)) = (splitE (V + 6901746346790563787434755862277025452451108972170386555162524223799296 * c)).list := by
  simp only [splitE, E5.list, List.set_cons_succ, List.set_cons_zero, List.getD_cons_succ, List.getD_cons_zero, List.set_nil, List.getD_nil, List.cons.injEq, and_true, true_and]
  omega
theorem ss30 (V c : Nat) (hV : V < 1766847064778384329583297500742918515827483896875618958121606201292619776) (hc : c < 256) : (splitE V).list.getD 4 0 < 68719476736 ∧ (splitE V).list.getD 5 0 = 0 ∧ (((splitE V).list.set 4 ((splitE V).list.getD 4 0 + c * 68719476736 % 2251799813685248)).set 5 (c / 32768)) = (splitE (V + 1766847064778384329583297500742918515827483896875618958121606201292619776 * c)).list := by
  simp only [splitE, E5.list, List.set_cons_succ, List.set_cons_zero, List.getD_cons_succ, List.getD_cons_zero, List.set_nil, List.getD_nil, List.cons.injEq, and_true, true_and]
  omega
theorem ss31 (V c : Nat) (hV : V < 452312848583266388373324160190187140051835877600158453279131187530910662656) (hc : c < 256) : (splitE V).list.getD 4 0 < 17592186044416 ∧ (splitE V).list.getD 5 0 = 0 ∧ (((splitE V).list.set 4 ((splitE V).list.getD 4 0 + c * 17592186044416 % 2251799813685248)).set 5 (c / 128)) = (splitE (V + 452312848583266388373324160190187140051835877600158453279131187530910662656 * c)).list := by
  simp only [splitE, E5.list, List.set_cons_succ, List.set_cons_zero, List.getD_cons_succ, List.getD_cons_zero, List.set_nil, List.getD_nil, List.cons.injEq, and_true, true_and]
  omega
theorem split_step (V c k : Nat) (hk : k < 32) (hV : V < 256 ^ k) (hc : c < 256) : (splitE V).list.getD (8 * k / 51) 0 < 2 ^ (8 * k % 51) ∧ (splitE V).list.getD (8 * k / 51 + 1) 0 = 0 ∧
    (((splitE V).list.set (8 * k / 51) ((splitE V).list.getD (8 * k / 51) 0 + c * 2 ^ (8 * k % 51) % 2251799813685248)).set (8 * k / 51 + 1) (c / 2 ^ (51 - 8 * k % 51))) = (splitE (V + 256 ^ k * c)).list := by
  have h : k = 0 ∨ k = 1 ∨ k = 2 ∨ k = 3 ∨ k = 4 ∨ k = 5 ∨ k = 6 ∨ k = 7 ∨ k = 8 ∨ k = 9 ∨ k = 10 ∨ k = 11 ∨ k = 12 ∨ k = 13 ∨ k = 14 ∨ k = 15 ∨ k = 16 ∨ k = 17 ∨ k = 18 ∨ k = 19 ∨ k = 20 ∨ k = 21 ∨ k = 22 ∨ k = 23 ∨ k = 24 ∨ k = 25 ∨ k = 26 ∨ k = 27 ∨ k = 28 ∨ k = 29 ∨ k = 30 ∨ k = 31 := by omega
  rcases h with rfl | rfl | rfl | rfl | rfl | rfl | rfl | rfl | rfl | rfl | rfl | rfl | rfl | rfl | rfl | rfl | rfl | rfl | rfl | rfl | rfl | rfl | rfl | rfl | rfl | rfl | rfl | rfl | rfl | rfl | rfl | rfl
  · exact ss0 V c hV hc
  · exact ss1 V c hV hc
  · exact ss2 V c hV hc
  · exact ss3 V c hV hc
  · exact ss4 V c hV hc
  · exact ss5 V c hV hc
  · exact ss6 V c hV hc
  · exact ss7 V c hV hc
  · exact ss8 V c hV hc
  · exact ss9 V c hV hc
  · exact ss10 V c hV hc
  · exact ss11 V c hV hc
  · exact ss12 V c hV hc
  · exact ss13 V c hV hc
  · exact ss14 V c hV hc
  · exact ss15 V c hV hc
  · exact ss16 V c hV hc
  · exact ss17 V c hV hc
  · exact ss18 V c hV hc
  · exact ss19 V c hV hc
  · exact ss20 V c hV hc
  · exact ss21 V c hV hc
  · exact ss22 V c hV hc
  · exact ss23 V c hV hc
  · exact ss24 V c hV hc
  · exact ss25 V c hV hc
  · exact ss26 V c hV hc
  · exact ss27 V c hV hc
  · exact ss28 V c hV hc
  · exact ss29 V c hV hc
  · exact ss30 V c hV hc
  · exact ss31 V c hV hc
end Go.Proofs.YtpfcboakafbnlaaDoor
