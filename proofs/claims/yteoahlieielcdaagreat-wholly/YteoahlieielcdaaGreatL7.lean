import Derived.Test.YteoahlieielcdaaGreatL3
import Derived.Test.YteoahlieielcdaaGreatK7
import Derived.Test.YteoahlieielcdaaGreatWgs
import Derived.OpenShut
set_option linter.all false
namespace Go.Proofs.YteoahlieielcdaaGreat
section
/-
  Latest (promises P5, P6), at this commit: for every list of numbers and every two numbers the call returns true, and the list reads afterwards as it read before.
  Conditions: none but the form's own reach.
-/
open Go Go.ChangeShapes Go.WideShapes Go.ChangeAt Go.RowKit
theorem qw{n:Int}(h:(Lit.int .i64 n).wf=true): -9223372036854775808<=n/\n<=9223372036854775807:=by simp[Lit.wf,IntKind.min,IntKind.max,IntKind.signed,IntKind.bits]at h;omega
theorem LM:Tryz.prog.cellsOf 3=1:=by kernel_rfl
theorem LN{H:Type}{enc:TypeId×Value->H}{W:World}{a0:Option Addr}{Sv LO:Nat}{d:DataW H}{p:List MemPlace}(h:DataW.Trod enc Tryz.prog W 0 (fun _=>true) true 58 (.slice a0 Sv LO) d p):
 ∃oa cap O,Value.slice a0 Sv LO=.slice oa (List.length O) cap/\∀(j:Nat) (z:Int),O[j]?=some z->∃ob oo,oa=some ⟨ob,oo,none⟩/\ob<W.heap.size/\W.cell? ⟨ob,oo+j,none⟩=some (.int .i64 z)/\-9223372036854775808<=z/\z<=9223372036854775807:=by
 obtain⟨n,h⟩:=h;rcases open_ints Tryz.underlying58 Tryz.underlying3 LM (cs:= [.slice a0 Sv LO]) h with⟨hc,_⟩|⟨a,len,cap,zs,hc,_,hl,hm,hz,_,hcell,hwf⟩
 ·simp only[List.cons.injEq,and_true]at hc;exact⟨none,0, [],hc,fun j z hj=>by simp at hj⟩
 ·simp only[List.cons.injEq,and_true]at hc;simp only[if_true]at hz;have hlz:len<=zs.length:=by omega
  refine⟨some a,cap,zs.take len,by rw[List.length_take,Nat.min_eq_left hlz];exact hc,fun j z hj=>?_⟩;have hjl:j<len:=by have:=(List.getElem?_eq_some_iff.1 hj).1;simp at this;omega
  rw[List.getElem?_take_of_lt hjl]at hj;have hc1:=hcell j (by omega);have hg:zs.getD j 0=z:=by simp[List.getD,hj]
  rw[hg]at hc1;obtain⟨b,o,spot⟩:=a;have aah:spot=none:=by simpa[Addr.add]using World.cell?_spot (hcell 0 (by omega))
  subst aah;have e:(⟨b,o,none⟩:Addr).add j=⟨b,o+j,none⟩:=by unfold Addr.add;split<;>simp_all
  rw[e]at hc1;refine⟨b,o,rfl,?_,hc1,qw (hwf z (List.mem_of_getElem? hj))⟩;rcases Nat.lt_or_ge b W.heap.size with h1|h1
  ·exact h1
  ·exfalso;simp[World.cell?,Array.getElem?_eq_none h1]at hc1
end
end Go.Proofs.YteoahlieielcdaaGreat
