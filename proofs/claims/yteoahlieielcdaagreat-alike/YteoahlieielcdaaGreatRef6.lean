import Derived.Test.YteoahlieielcdaaGreatBase
import Derived.Deep.RegionHeld3
set_option linter.all false
namespace Go.Proofs.YteoahlieielcdaaGreat
open Go.Proofs.Tryz
open Go Go.RowKit
abbrev zap:=@List.getElem?_eq_getElem
variable{s:MS}{n:Int}{r:MR}{l:List KV}{key x:ByteArray}{k i j:Nat}{a L:List ByteArray}
section
theorem Uw(h:gN s n=none):n<1\/(s.rs.length:Int)<n\/(1<=n/\n<=s.rs.length/\∃r,s.rs[(n-1).toNat]?=some r/\r.fin=true):=by
 unfold gN fO at h;split at h
 ·omega
 ·rename_i hb;have hlt:(n-1).toNat<s.rs.length:=by omega
  rw[zap hlt]at h;simp only at h;refine Or.inr (Or.inr ⟨by omega,by omega,_,zap hlt,?_⟩);cases hc:s.rs[(n-1).toNat].fin
  ·rw[hc]at h;simp at h
  ·rfl
theorem pO(h:gN s n=some r):1<=n/\n<=s.rs.length/\s.rs[(n-1).toNat]?=some r/\r.fin=false:=by
 unfold gN fO at h;split at h
 ·cases h
 ·rename_i hb;have hlt:(n-1).toNat<s.rs.length:=by omega
  rw[zap hlt]at h;simp only at h;split at h
  ·cases h
  ·rename_i hc;cases h;exact⟨by omega,by omega,zap hlt,by simpa using hc⟩
section
variable {w:World}{τ:Nat->Tag}{aD b:Nat}{s:MS}
def valueOf(l:List KV)(key:ByteArray):ByteArray:=match l.find? (fun x=>decide (x.1=key))with
 |some x=>x.2
 |none=>ByteArray.empty
theorem BX(h:∀j x,j<l.length->l[j]?=some x->x.1≠key):valueOf l key=ByteArray.empty/\aH l key=false:=by
 have h1:l.find? (fun x=>decide (x.1=key))=none:=by rw[List.find?_eq_none];intro x hx;obtain⟨j,hj,rfl⟩:=List.mem_iff_getElem.1 hx;simpa using h j _ hj (zap hj)
 refine⟨by unfold valueOf;rw[h1],?_⟩;simp only[aH,List.any_eq_false,decide_eq_true_eq];rw[List.find?_eq_none]at h1;intro x hx;simpa using h1 x hx
theorem BW{x:KV}(hx:l[k]?=some x)(he:x.1=key)(h:∀j y,j<k->l[j]?=some y->y.1≠key):valueOf l key=x.2/\aH l key=true:=by
 have h1:l.find? (fun x=>decide (x.1=key))=some x:=by obtain⟨hk,rfl⟩:=List.getElem?_eq_some_iff.1 hx;rw[List.find?_eq_some_iff_getElem];refine⟨by simpa using he,k,hk,rfl,fun j hj=>?_⟩;simpa using h j _ hj (zap (by omega))
 refine⟨by unfold valueOf;rw[h1],?_⟩;simp only[aH,List.any_eq_true,decide_eq_true_eq];exact⟨x,List.mem_of_getElem? hx,he⟩
end
end
section
theorem LX{ws:List MW}{m:MW}(hm:ws[k]?=some m)(h1:aH m.items key=true)(h2:m.comm (partOf n key).toNat=true):pJ n ws key (k+1)=k+1:=by simp only[pJ,hm];rw[if_pos (by rw[h1,h2];rfl)]
theorem AP{l:List MR}{r':MR}(hr:l[i]?=some r)(hf:r'.fin=r.fin):cj (l.set i r')=cj l:=by
 unfold cj;induction l generalizing i with
 |nil=>simp at hr
 |cons x l ih=>
  cases i with
  |zero=>simp at hr;subst hr;simp[List.countP_cons,hf]
  |succ i=>simp at hr;simp[List.countP_cons,ih hr]
section
variable {w:World}{τ:Nat->Tag}{aD b:Nat}{s:MS}
theorem L2(hf:gN s n=none):lT s n key=(7,s):=by unfold lT;rw[hf]
theorem Py(hf:gN s n=some r)(hk:¬bM r.keys key<r.keys.length):lT s n key=(4,s):=by unfold lT;rw[hf];simp only[if_neg hk]
theorem LZ(hf:gN s n=some r)(hj:bM r.keys key=j)(hl:j<r.keys.length)(ha:r.asked j=true):lT s n key=(10,s):=by unfold lT;rw[hf];simp only[hj,if_pos hl,ha,if_true]
theorem SJ(hf:gN s n=some r)(hi:(n-1).toNat=i)(hj:bM r.keys key=j)(hl:j<r.keys.length)(ha:r.asked j=false):
 lT s n key=(0,{s with rs:=s.rs.set i {r with asked:=put r.asked j,found:=fun q=>if q=j then aU s key else r.found q}}):=by unfold lT;rw[hf];simp only[hj,if_pos hl,ha,ZL,J4,hi];rfl
end
end
section
theorem J6:(prog.info? 3).map (fun i=>(i.zero,i.size,i.bytes))=some (some (.int .i64 0),1,8):=by kernel_rfl
theorem SG{r:List ByteArray}(h:bK x=false):fI a (x :: r)=4:=by simp[fI,h]
theorem LW{r:List ByteArray}(h:bK x=true)(h2:dX a x=true):fI a (x :: r)=5:=by simp[fI,h,h2]
theorem Wh{r:List ByteArray}(h:bK x=true)(h2:dX a x=false):fI a (x :: r)=fI (a++ [x]) r:=by simp[fI,h,h2]
theorem jE{l:List ByteArray}:dX l x=true↔x∈l:=by simp only[dX,List.any_eq_true,decide_eq_true_eq];exact⟨fun⟨y,hy,e⟩=>e▸hy,fun h=>⟨x,h,rfl⟩⟩
theorem PE{r:List ByteArray}:∀{a:List ByteArray},fI a r=0->(∀x∈r,bK x=true/\x ∉ a)/\r.Nodup:=by
 induction r with
 |nil=>intro a _;exact⟨fun x hx=>by simp at hx,List.nodup_nil⟩
 |cons y r ih=>
  intro a h;simp only[fI]at h;split at h
  ·cases h
  ·rename_i hg;split at h
   ·cases h
   ·rename_i hn;obtain⟨h1,h2⟩:=ih h;have hya:y ∉ a:=fun e=>hn (jE.2 e);refine⟨fun x hx=>?_,List.nodup_cons.2 ⟨fun e=>(h1 y e).2 (by simp),h2⟩⟩;rcases List.mem_cons.1 hx with rfl|hx
    ·exact⟨by simpa using hg,hya⟩
    ·exact⟨(h1 x hx).1,fun e=>(h1 x hx).2 (List.mem_append_left _ e)⟩
theorem za(h:L[k]?=some x):L.drop k=x :: L.drop (k+1):=by obtain⟨hk,rfl⟩:=List.getElem?_eq_some_iff.1 h;exact List.drop_eq_getElem_cons hk
theorem Pj(h:L[k]?=some x):L.take (k+1)=L.take k++ [x]:=by obtain⟨hk,rfl⟩:=List.getElem?_eq_some_iff.1 h;exact List.take_succ_eq_append_getElem hk
theorem yf(h:∀j x,j<k->L[j]?=some x->x≠key):dX (L.take k) key=false:=by
 cases hh:dX (L.take k) key
 ·rfl
 ·have hx:=jE.1 hh;obtain⟨j,hj,he⟩:=List.mem_iff_getElem.1 hx;simp only[List.length_take]at hj;refine absurd ?_ (h j key (by omega) ?_)
  ·rfl
  ·rw[List.getElem_take]at he;rw[<-he];exact zap (by omega)
theorem yd(hj:j<k)(hx:L[j]?=some x)(h:x=key):dX (L.take k) key=true:=by
 refine jE.2 ?_;have:(L.take k)[j]?=some x:=by rw[List.getElem?_take_of_lt hj];exact hx
 rw[<-h];exact List.mem_of_getElem? this
section
variable {w:World}{τ:Nat->Tag}{aD b:Nat}{s:MS}
end
end
end Go.Proofs.YteoahlieielcdaaGreat
