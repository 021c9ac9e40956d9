import Derived.Test.YteoahlieielcdaaGreatPr1
import Derived.Test.YteoahlieielcdaaGreatRef6
set_option linter.all false
set_option maxHeartbeats 4000000
set_option maxRecDepth 100000
namespace Go.Proofs.YteoahlieielcdaaGreat
open Go.Proofs.Tryz
open Go Go.RowKit Go.MuLone
abbrev zaq:=@RowKit.Below.heap_setCell
abbrev zar:=@RowKit.Below.heap_alloc
abbrev zas:=@Nat.le_refl
abbrev zat:=@List.getElem?_eq_getElem
abbrev zau:=@World.cell?_of_block
abbrev zav:=@World.block_lt_of_cell?
abbrev zaw:=@Nat.zero_le
abbrev zax:=@List.mem_map
variable{w' w2 w:World}{o:Obj}{v2 sv cD v ks':Value}{x kk:ByteArray}{i pw sm aD k B0 new:Nat}{n:Int}{sh pb kb vb:Nat->Nat}{iv:Nat->Value}{τ' τ:Nat->Tag}{L:List ByteArray}{l:List UInt8}
section
open Go.Maps (Keyed)
section
variable {w:World}{τ:Nat->Tag}{aD i P:Nat}{pb:Nat->Nat}{pw sm:Nat}{sh:Nat->Nat}{iv:Nat->Value}{sv kv:Value}{K:List ByteArray}{L:List KV}{B0:Nat}
theorem fX.below(h:fX w τ aD i P pb pw sm sh iv sv kv K L B0)(hB:Below w.heap.size w w'):fX w' τ aD i P pb pw sm sh iv sv kv K L B0:=
 ⟨h.blk.of_eq (hB.block _ h.blk.lt),h.tag,h.map.of_eq (hB.block _ h.map.lt),h.gU,fun q ho=>(h.LQ q ho).of_eq (hB.block _ (h.LQ q ho).lt),h.cG,fun q ho=>ak (h.it q ho) (fun k hk=>hB.block k (aR (h.it q ho) k hk).2),h.fA,ak h.ky (fun k hk=>hB.block k (aR h.ky k hk).2),h.dF,h.lo,h.Iv,h.Iw,h.Nf⟩
theorem fX.frame(h:fX w τ aD i P pb pw sm sh iv sv kv K L B0)(hB:∀k,B0<=k->k<w.heap.size->w'.heap[k]?=w.heap[k]?):fX w' τ aD i P pb pw sm sh iv sv kv K L B0:=
 ⟨h.blk.of_eq (hB _ h.lo.1 h.blk.lt),h.tag,h.map.of_eq (hB _ h.lo.2 h.map.lt),h.gU,fun q ho=>(h.LQ q ho).of_eq (hB _ (h.Iv q ho) (h.LQ q ho).lt),h.cG,fun q ho=>ak (h.it q ho) (fun k hk=>hB k (h.Iw q k ho hk) (aR (h.it q ho) k hk).2),h.fA,ak h.ky (fun k hk=>hB k (h.Nf k hk) (aR h.ky k hk).2),h.dF,h.lo,h.Iv,h.Iw,h.Nf⟩
theorem SD(P:Nat)(sh:Nat->Nat):AM P sh []=fun _=>none:=by
 funext kl;cases kl with
 |int k n=>cases k<;>simp[AM,az]
 |_=>rfl
theorem fX.made(w:World)(τ:Nat->Tag)(aD i P:Nat)(pb:Nat->Nat):
 fX ((w.alloc (.map #[] 0)).alloc (.cells #[fy,gF,.int .i64 ((i:Int)+1),.nilIface,.bool false,.map (some w.heap.size)] 164))
  (fun k=>if k=w.heap.size+1 then(aD,6,i)else if k=w.heap.size then(aD,7,i)else τ k) aD i P pb (w.heap.size+1) w.heap.size (fun _=>0) (fun _=>.slice none 0 0) .nilIface (.slice none 0 0) [] [] w.heap.size:=by
 refine⟨?_,by simp,?_,by simp,fun q ho=>by simp[az]at ho,fun q ho=>by simp[az]at ho,fun q ho=>by simp[az]at ho,fun q k ho=>by simp[az]at ho,World.ownsRow_nil _ _ _ _,fun k hk=>(by cases hk),⟨by omega,by omega⟩,fun q ho=>by simp[az]at ho,fun q k ho=>by simp[az]at ho,fun k hk=>(by cases hk)⟩
 ·have:=aT.new (w.alloc (.map #[] 0)) #[fy,gF,.int .i64 ((i:Int)+1),.nilIface,.bool false,.map (some w.heap.size)] 164
  simpa using this
 ·rw[SD]
  exact(aK.made w prog 3).of_eq (zar _ _ _ (by simp))
theorem yw:(prog.info? 9).map (fun i=>(i.zero,i.size,i.bytes))=some (some (.string ByteArray.empty),1,16):=by kernel_rfl
theorem fX.key(h:fX w τ aD i P pb pw sm sh iv sv kv K L B0)(uQ:B0<=w.heap.size)
 (hO:w2.ownsRow 0 9 1 v2 (K.length+1) (K.map Value.string++ [.string x])) (hG:(w.alloc o).grownBy w2 kv.ownBlock) (hA:v2.ownBlock=kv.ownBlock\/v2.ownBlock=some (w.alloc o).heap.size):
 ∃τ',fX w2 τ' aD i P pb pw sm sh iv sv v2 (K++ [x]) L B0/\Below B0 w w2/\∀k,k<w.heap.size->τ' k=τ k:=by
 have hsz:w.heap.size<w2.heap.size:=by have:=hG.size;simp at this;omega
 have hnb:∀k,v2.ownBlock=some k->kv.ownBlock=some k\/w.heap.size<k:=fun k hk=>by
  rcases hA with e|e
  ·exact Or.inl (by rw[<-e];exact hk)
  ·rw[hk]at e;have:=Option.some.inj e;simp at this;exact Or.inr (by omega)
 have hold:∀{k:Nat} {g:Nat×Nat},k<w.heap.size->τ k=(aD,g)->g.1≠15->w2.heap[k]?=w.heap[k]? :=fun{k g} hk ht hg=>
  (hG.block k (by simp;omega) (fun e=>by have:=h.dF k e.symm;rw[ht]at this;simp at this;exact hg (by rw[this]))).trans (zar _ _ _ hk)
 have kJ:∀k,k<w.heap.size->(if v2.ownBlock=some k then(aD,15,i)else τ k)=τ k:=fun k hk=>by
  by_cases e:v2.ownBlock=some k
  ·rw[if_pos e];rcases hnb k e with e1|e1
   ·rw[h.dF k e1]
   ·omega
  ·rw[if_neg e]
 refine⟨fun k=>if v2.ownBlock=some k then(aD,15,i)else τ k,⟨h.blk.of_eq (hold h.blk.lt h.tag (by simp)),(kJ _ h.blk.lt).trans h.tag,h.map.of_eq (hold h.map.lt h.gU (by simp)),(kJ _ h.map.lt).trans h.gU,
  fun q ho=>(h.LQ q ho).of_eq (hold (h.LQ q ho).lt (h.cG q ho) (by simp)),fun q ho=>(kJ _ (h.LQ q ho).lt).trans (h.cG q ho),fun q ho=>ak (h.it q ho) (fun k hk=>hold (aR (h.it q ho) k hk).2 (h.fA q k ho hk) (by simp)),
  fun q k ho hk=>(kJ k (aR (h.it q ho) k hk).2).trans (h.fA q k ho hk),by simpa using hO,fun k hk=>if_pos hk,h.lo,h.Iv,h.Iw,fun k hk=>?_⟩,⟨hG.os,hG.tape,hG.output,by omega,fun k hk=>?_⟩,kJ⟩
 ·rcases hnb k hk with e|e
  ·exact h.Nf k e
  ·omega
 ·exact(hG.block k (by simp;omega) (fun e=>by have:=h.Nf k e.symm;omega)).trans (zar _ _ _ (by omega))
theorem fX.carry(h:fX w τ aD i P pb pw sm sh iv sv kv K L B0)(sv':Value):fX (w.setCell ⟨pw,3,none⟩ sv') τ aD i P pb pw sm sh iv sv' kv K L B0:=by
 have hne:∀{k:Nat} {g:Nat×Nat},τ k=(aD,g)->g.1≠6->(w.setCell ⟨pw,3,none⟩ sv').heap[k]?=w.heap[k]? :=fun{k g} ht hg=>zaq _ _ _ _ (fun e=>by have e':k=pw:=e;rw[e',h.tag]at ht;simp at ht;exact hg (by rw[<-ht]))
 refine⟨?_,h.tag,h.map.of_eq (hne h.gU (by simp)),h.gU,fun q ho=>(h.LQ q ho).of_eq (hne (h.cG q ho) (by simp)),h.cG,fun q ho=>ak (h.it q ho) (fun k hk=>hne (h.fA q k ho hk) (by simp)),h.fA,ak h.ky (fun k hk=>hne (h.dF k hk) (by simp)),h.dF,h.lo,h.Iv,h.Iw,h.Nf⟩;have:=h.blk.set 3 sv';simpa using this
theorem C4(b:Nat)(mode:Int)(cm:w.cell? ⟨b,0,none⟩=some (.int .i64 mode))(cD:Value)(cs:w.cell? ⟨b,1,none⟩=some cD)(Ri:w.ownsRow 0 130 1 cD P ((List.range P).map (fun q=>ptr (pb q))))(Su:1<=P)(G1:P<=4)(gb go cap:Nat)(h1:1<=L.length)(h8:L.length<=8)(hg:∀x∈L,gj x=true)
 (hcell:∀(k:Nat) (x:KV),L[k]?=some x->w.cell? ⟨gb,go+k*2,none⟩=some (.string x.1)/\w.cell? ⟨gb,go+k*2+1,none⟩=some (.string x.2)):
 Calls prog 48 #[ptr b,.int .i64 ((i:Int)+1),.slice (some ⟨gb,go,none⟩) L.length cap] w fun e w'=>∃τ' pw sm sh iv sv kv,e=.returned (ptr pw)/\fX w' τ' aD i P pb pw sm sh iv sv kv (L.map Prod.fst) L w.heap.size/\Uo mode kv (L.map Prod.fst) sv/\Below w.heap.size w w'/\∀k,k<w.heap.size->τ' k=τ k:=by
 have vP:=zav w _ cs;simp only at vP;obtain⟨pg,pc,hpv,_,hpc,yZ,_⟩:=dJ Ri (by omega);subst hpv;have Pa:pg<w.heap.size:=(aR Ri pg rfl).2;have hpq:∀q,q<P->w.cell? ⟨pg,q,none⟩=some (.pointer (some ⟨pb q,0,none⟩)):=fun q hq=>by rw[yZ q (by omega),List.getElem?_map,List.getElem?_range hq];rfl
 have GU:=@run_makeMap prog;obtain⟨si,hsi,Zq,Zr,Zs⟩:=info_parts yw;clear yZ;unfold ptr;go_enter func48,ntmps48;go_wp2_with fail
 go_loopw [8,19] (fun s8 u wr=>∃(k:Nat) (τ':Nat->Tag) (sh:Nat->Nat) (iv:Nat->Value),k<=L.length/\u=.int .i64 k/\fX wr τ' aD i P pb (w.heap.size+1) w.heap.size sh iv .nilIface s8 ((L.take k).map Prod.fst) (L.take k) w.heap.size/\Below w.heap.size w wr/\Hid (∀k,k<w.heap.size->τ' k=τ k)) (fun _ u _=>L.length-(intOf u).toNat)
 case atStart=>
  refine⟨0,_,_,_,zaw _,rfl,fX.made w τ aD i P pb,?_,fun k hk=>?_⟩
  ·exact((Below.refl _ _).alloc (zas _) _).alloc (by simp) _
  ·have e1:k≠w.heap.size+1:=by omega
   have e2:k≠w.heap.size:=by omega
   simp[e1,e2]
 case round=>
  obtain⟨k,τ1,sh1,iv1,hk,rfl,hW,hB,HT⟩:=hrel;by_cases hlt:k<L.length
  ·have hx:L[k]?=some L[k]:=zat hlt;obtain⟨c1,c2⟩:=hcell k _ hx;have hgb:gb<w.heap.size:=zav w _ c1;have V3:=(hB.cell (p:=⟨gb,go+k*2,none⟩) hgb).trans c1;have c2':=(hB.cell (p:=⟨gb,go+k*2+1,none⟩) hgb).trans c2;have AL:=gO (hg _ (List.getElem_mem hlt));have Rb:Hid (L.take (k+1)=L.take k++ [L[k]]):=List.take_succ_eq_append_getElem hlt;generalize L[k]=x at *;obtain⟨kk,vv⟩:=x;simp only at V3 c2' AL;have hbd:=eM P kk (by omega);obtain⟨q,hq⟩:∃q:Nat,partOf P kk=q:=⟨(partOf P kk).toNat,by omega⟩
   have hqP:q<P:=by omega
   have Pb:=hpq q hqP;clear hcell c1 c2 hpq hx;go_upto_region 6 with(fail)
   have Eg:Below w.heap.size w (wr.alloc (.cells #[.string kk,.string vv] 70)):=hB.alloc hB.size _;have hBr:Below wr.heap.size wr (wr.alloc (.cells #[.string kk,.string vv] 70)):=(Below.refl _ _).alloc (zas _) _;have b0:(wr.alloc (.cells #[.string kk,.string vv] 70)).cell? ⟨wr.heap.size,0,none⟩=some (.string kk):=(aT.new wr _ _).cell (o:=0) rfl;have b1:(wr.alloc (.cells #[.string kk,.string vv] 70)).cell? ⟨wr.heap.size,1,none⟩=some (.string vv):=(aT.new wr _ _).cell (o:=1) rfl;have V5:wr.heap.size< (wr.alloc (.cells #[.string kk,.string vv] 70)).heap.size:=by simp
   generalize wr.alloc (.cells #[.string kk,.string vv] 70)=wa at *;go_cut [11] (fun Q5 wx=>∃ob,Q5=.pointer (some ⟨ob,0,none⟩)/\aT wx ob #[.string kk,.string vv] 70/\Below wa.heap.size wa wx/\wa.heap.size<=ob)
   case first=>
    have ve:Below wa.heap.size wa wa.drew:=(Below.refl _ _).drew;go_region_held3 (fun W=>W.cell? ⟨wr.heap.size,0,none⟩=some (.string kk)/\W.cell? ⟨wr.heap.size,1,none⟩=some (.string vv)) (first|(simp[*];done)|(refine⟨?_,?_⟩ <;>(rw[zau (w:=w2) (zar w2 _ _ (by have:=ve.size;omega))];assumption))|(refine⟨?_,?_⟩ <;>(rw[zau (w:=wa.drew) (zar wa.drew _ _ (by have:=ve.size;omega))];assumption))|(refine⟨?_,?_⟩ <;>(rw[fM (by simp only;omega),fM (by simp only;omega)];assumption))|(go_keep;done)) ((go_at_call 85;refine(u9 _ (by omega)).mono ?_;rintro e w2 ⟨rfl,dP⟩;have hnx:Below wa.heap.size wa w2:=(by first|exact ve.trans (dP.mono ve.size)|exact(ve.alloc ve.size _).trans (dP.mono (Nat.le_trans ve.size (by simp))));have q0:=(hnx.cell (p:=⟨wr.heap.size,0,none⟩) V5).trans b0;have q1:=(hnx.cell (p:=⟨wr.heap.size,1,none⟩) V5).trans b1;have ve:=hnx;have aar:wa.heap.size<=w2.heap.size:=hnx.size;have akn:wr.heap.size<w2.heap.size:=Nat.lt_of_lt_of_le V5 hnx.size;first|(have r9:=OY dP hown;clear hown;have hown:=r9;have r0:=hown.cell (o:=0) (v:=.string ⟨#[]⟩) rfl;have r1:=hown.cell (o:=1) (v:=.string ⟨#[]⟩) rfl;have r2:=hown.frozen 0;have r3:=hown.frozen 1)|(have hown:=OX dP;have r0:=hown.cell (o:=0) (v:=.string ⟨#[]⟩) rfl;have r1:=hown.cell (o:=1) (v:=.string ⟨#[]⟩) rfl;have r2:=hown.frozen 0;have r3:=hown.frozen 1)|(have hown:=Sx dP;have r0:=hown.cell (o:=0) (v:=.string ⟨#[]⟩) rfl;have r1:=hown.cell (o:=1) (v:=.string ⟨#[]⟩) rfl;have r2:=hown.frozen 0;have r3:=hown.frozen 1)|skip))
    ·go_wp2_with fail
     go_meet
     case rel=>exact⟨w2.heap.size,rfl,aT.new _ _ _,ve.alloc ve.size _,ve.size⟩
    ·go_wp2_with fail
     go_meet
     case rel=>
      exact⟨_,rfl,Ke hown kk vv,(ve.setCell (p:=⟨_,0,none⟩) (by simp only;omega) _).setCell (p:=⟨_,1,none⟩) (by simp only;omega) _,by omega⟩
    ·go_wp2_with fail
     go_meet
     case rel=>
      exact⟨_,rfl,Ke hown kk vv,(ve.setCell (p:=⟨_,0,none⟩) (by simp only;omega) _).setCell (p:=⟨_,1,none⟩) (by simp only;omega) _,by omega⟩
   case rest=>
    obtain⟨ob,rfl,V6,Kg,hol⟩:=hcut;have Rj:Below w.heap.size w wc:=Eg.trans (Kg.mono Eg.size);have aas:Below wr.heap.size wr wc:=hBr.trans (Kg.mono hBr.size);have o0:wc.cell? ⟨ob,0,none⟩=some (.string kk):=V6.cell (o:=0) rfl;have SE:=sw (w:=wc) b P (some ⟨pg,0,none⟩) pc kk (by omega) (by omega) G1 ((Rj.cell (p:=⟨b,1,none⟩) vP).trans cs);unfold ptr at SE;rw[hq]at SE;clear b0 b1;go_wp2_with fail
    refine SE.mono ?_;rintro e w2 ⟨rfl,dP⟩;clear SE;have oO:Below w.heap.size w w2:=Rj.trans (dP.mono Rj.size);have V7:aT w2 ob #[.string kk,.string vv] 70:=V6.of_eq (dP.block _ V6.lt);have i0:w2.cell? ⟨ob,0,none⟩=some (.string kk):=V7.cell (o:=0) rfl;have i1:w2.cell? ⟨ob,1,none⟩=some (.string vv):=V7.cell (o:=1) rfl;have s1:w2.cell? ⟨b,1,none⟩=some (.slice (some ⟨pg,0,none⟩) P pc):=(oO.cell (p:=⟨b,1,none⟩) vP).trans cs;have p1:w2.cell? ⟨pg,q,none⟩=some (.pointer (some ⟨pb q,0,none⟩)):=(oO.cell (p:=⟨pg,q,none⟩) Pa).trans Pb;have sD:=hW.below (aas.trans (dP.mono aas.size));have ca:=SC (w:=w2.drew) (sD.below (Below.refl _ _).drew) Su G1 kk vv q hq (by simp;omega);unfold ptr at ca;have w8:=oO.size;have Sr:=V7.lt;have aeZ:Hid (∀q':Nat,az P (L.take k) q'=true->ob≠sh1 q'/\(iv1 q').ownBlock≠some ob):=fun q' ho=>⟨fun e=>by have:=(hW.LQ q' ho).lt;omega,fun e=>by have:=(aR (hW.it q' ho) ob e).2;omega⟩
    have ae0:ob≠w.heap.size:=by have:=hW.map.lt;omega
    have HTq:Hid (L.take k++ [(kk,vv)]=L.take (k+1)):=Rb.out.symm;have HKq:Hid ((L.take k).map Prod.fst++ [kk]=(L.take (k+1)).map Prod.fst):=by unfold Hid;rw[Rb.out];simp
    clear Rb;go_upto_region 8 with(fail)
    go_cut [12] (fun Rw wx=>∃τ2 XJ XK,fX wx τ2 aD i P pb (w.heap.size+1) w.heap.size XJ XK .nilIface u8 ((L.take k).map Prod.fst) (L.take (k+1)) w.heap.size/\Below w.heap.size w wx/\Hid (∀k,k<w.heap.size->τ2 k=τ k)/\wx.cell? ⟨ob,0,none⟩=some (.string kk))
    case first=>
     go_region_with ((go_at_call 86;refine ca.mono ?_;rintro e w3 ⟨rfl,τ2,XJ,XK,wy,lU,Em,Kh⟩))
     all_goals
      have HT3:Hid (∀k,k<w.heap.size->τ2 k=τ k):=fun k hk=>(Em k (by show k<w2.heap.size;omega)).trans (HT.out k hk)
      have j0:w3.cell? ⟨ob,0,none⟩=some (.string kk):=(zau (w:=w2.drew) (Kh ob Sr ae0 aeZ.out)).trans i0
      clear ca Em Kh
      rw[HTq.out]at wy
      go_wp2_with fail
      go_meet
      case rel=>exact⟨τ2,XJ,XK,wy,oO.drew.trans lU,HT3,j0⟩
    case rest=>
     obtain⟨τ2,XJ,XK,wy,lU,HT3,j0⟩:=hcut;rename World=>wd
     have Fg:((L.take k).map Prod.fst).length=k:=by simp;omega
     obtain⟨av,jS,hkv⟩:=gH wy.ky;have V8:=wy.ky;have HK:Hid (∀(w4:World) (v4:Value) (o:Obj),w4.ownsRow 0 9 1 v4 (k+1) (((L.take k).map Prod.fst).map Value.string++ [.string kk])->(wd.alloc o).grownBy w4 u8.ownBlock->(v4.ownBlock=u8.ownBlock\/v4.ownBlock=some (wd.alloc o).heap.size)->
      ∃τ':Nat->Tag,fX w4 τ' aD i P pb (w.heap.size+1) w.heap.size XJ XK .nilIface v4 ((L.take (k+1)).map Prod.fst) (L.take (k+1)) w.heap.size/\Below w.heap.size wd w4/\∀k,k<wd.heap.size->τ' k=τ2 k):=fun w4 v4 o a1 a2 a3=>by rw[<-HKq.out];exact wy.key lU.size (by rw[Fg];exact a1) a2 a3
     rw[Fg]at V8 hkv;generalize ((L.take k).map Prod.fst).map Value.string=xs at *;subst hkv;have qT:=lU.size;go_wp2_with (at_builtin;refine wpList_append_own_at _ rfl (.tmp 45) (.tmp 48) 38 rfl 0 9 si _ 1 16 underlying38 hsi Zq Zr Zs rfl (by decide) (.slice av k jS) k xs rfl (V8.alloc _) ⟨_,0,none⟩ 1 1 [.string kk] rfl rfl (cell_one_new _ _ _) (by simp[Value.oneCell']) (by unfold maxLen;omega) (by omega) (zaw _) ?_;intro v4 w4 hO4 VR hN4 YH)
     obtain⟨τ4,V9,rj,Lb⟩:=HK.out w4 v4 _ hO4 VR YH;have HT4:Hid (∀k,k<w.heap.size->τ4 k=τ k):=fun k hk=>(Lb k (by omega)).trans (HT3.out k hk);clear Lb;go_wp2_with fail
     go_roundw
     case rel=>exact⟨k+1,τ4,XJ,XK,by omega,by go_num,V9,lU.trans rj,HT4⟩
     case measure=>simp[intOf];omega
  ·have Ix:k=L.length:=by omega
   rw[Ix,List.take_length]at hW;have cm':=(hB.cell (p:=⟨b,0,none⟩) vP).trans cm;obtain⟨av,jS,hkv⟩:=gH hW.ky;have Fg:(L.map Prod.fst).length=L.length:=by simp
   rw[Fg]at hkv;have hkc:∀(j:Nat) (x:ByteArray),(L.map Prod.fst)[j]?=some x->∃gb,av=some ⟨gb,0,none⟩/\wr.cell? ⟨gb,j,none⟩=some (.string x):=fun j x hx=>by have hj:=aE hx;obtain⟨g,c,e,_,_,hc,_⟩:=dJ hW.ky (by omega);rw[hkv]at e;injection e with e1 e2 e3;refine⟨g,e1,?_⟩;rw[hc j (by omega),List.getElem?_map,hx];rfl
   have hkz:∀x∈L.map Prod.fst,x.size<=8:=fun x hx=>by obtain⟨y,hy,rfl⟩:=zax.1 hx;exact(gO (hg y hy)).2.1
   have csb:=y4 (w:=wr) mode av (L.map Prod.fst) jS (by omega) hkz hkc;rw[Fg]at csb;have hpl:=hW.blk.lt;subst hkv;clear hcell hpq Ix hkc hkz;go_wp2_with fail
   refine csb.mono ?_;rintro e w2 ⟨⟨sv,rfl,BF⟩,dP⟩;clear csb;have sD:=hW.below dP;have HF:Hid (fX (w2.setCell ⟨w.heap.size+1,3,none⟩ sv) τ1 aD i P pb (w.heap.size+1) w.heap.size sh1 iv1 sv (.slice av L.length jS) (L.map Prod.fst) L w.heap.size):=sD.carry sv;have d3:w2.cell? ⟨w.heap.size+1,3,none⟩=some .nilIface:=sD.blk.cell (o:=3) rfl;have f3:=sD.blk.frozen 3;have HI:Hid (Uo mode (.slice av L.length jS) (L.map Prod.fst) sv):=BF;have HB:Hid (Below w.heap.size w (w2.setCell ⟨w.heap.size+1,3,none⟩ sv)):=(hB.trans (dP.mono hB.size)).setCell (p:=⟨w.heap.size+1,3,none⟩) (by simp) sv;rcases BF.isIf with rfl|⟨st,sx,rfl⟩
   all_goals
    go_wp2_with fail
    go_ret
    exact⟨τ1,w.heap.size+1,w.heap.size,sh1,iv1,_,_,rfl,HF.out,HI.out,HB.out,HT.out⟩
end
end
section
open Go.Maps (Keyed)
def cN(A:SA)(n pw sm:Nat)(sh:Nat->Nat)(iv:Nat->Value)(sv:Value):SA:=
 {A with pw:=fun j=>if j=n then pw else A.pw j,sm:=fun j=>if j=n then sm else A.sm j,sh:=fun j q=>if j=n then sh q else A.sh j q,iv:=fun j q=>if j=n then iv q else A.iv j q,sv:=fun j=>if j=n then sv else A.sv j}
def gl(s:MS)(L:List KV):MS:={s with ws:=s.ws++ [jT L]}
section
variable {w:World}{τ:Nat->Tag}{aD b:Nat}{s:MS}{A:SA}{L:List KV}
theorem eE{m:MW}(hm:(gl s L).ws[i]?=some m):(i<s.ws.length/\s.ws[i]?=some m)\/(i=s.ws.length/\m=jT L):=by
 unfold gl at hm;by_cases e:i<s.ws.length
 ·simp only[List.getElem?_append_left e]at hm;exact Or.inl ⟨e,hm⟩
 ·simp only[List.getElem?_append_right (Nat.le_of_not_lt e)]at hm;have hi':=aE hm;simp at hi';have:i=s.ws.length:=by omega
  subst this;simp at hm;exact Or.inr ⟨rfl,hm.symm⟩
theorem pU(hn:n≠(s.ws.length:Int)+1):bF (gl s L) n=bF s n:=by
 unfold bF gl;simp only[List.length_append,List.length_singleton];by_cases h1:n<1\/(s.ws.length:Int)<n
 ·rw[if_pos h1,if_pos (by omega)]
 ·rw[if_neg h1,if_neg (by omega),List.getElem?_append_left (by omega)]
theorem pV:bF (gl s L) ((s.ws.length:Int)+1)=some (jT L):=
 jW (i:=s.ws.length) (by simp[gl]) rfl
theorem C5:cL (gl s L) (cN A s.ws.length pw sm sh iv sv)=upd (cL s A) (.int .i64 ((s.ws.length:Int)+1)) (ptr pw):=by
 funext kl;by_cases e:kl=.int .i64 ((s.ws.length:Int)+1)
 ·subst e;rw[upd_same (by trivial)];simp only[cL,pV];rw[show ((s.ws.length:Int)+1-1).toNat=s.ws.length from by omega];simp[cN]
 ·rw[fN e];cases kl with
  |int k n=>
   cases k<;>try rfl
   have hn:n≠(s.ws.length:Int)+1:=fun e'=>e (by rw[e']);simp only[cL,pU hn];cases hf:bF s n with
   |none=>rfl
   |some m=>
    obtain⟨h1,h2,_⟩:=eP hf;have:(n-1).toNat≠s.ws.length:=by omega
    simp only[cN,if_neg this]
  |_=>rfl
theorem Iy(q:Nat):bE (gl s L) (cN A s.ws.length pw sm sh iv sv) q=bE s A q:=by
 funext kl;cases kl with
 |int k n=>
  cases k<;>try rfl
  by_cases hn:n=(s.ws.length:Int)+1
  ·subst hn;have:bF s ((s.ws.length:Int)+1)=none:=by unfold bF;rw[if_pos (by omega)]
   simp only[bE,pV,this,jT];rfl
  ·simp only[bE,pU hn];cases hf:bF s n with
   |none=>rfl
   |some m=>
    obtain⟨h1,h2,_⟩:=eP hf;have:(n-1).toNat≠s.ws.length:=by omega
    simp only[cN,if_neg this]
 |_=>rfl
theorem aW.push(h:aW w τ aD b s A)(Hz:L.length<=8)(hlg:∀x∈L,gj x=true)(hlen:s.ws.length<200)
 {kv:Value} (SF:Uo s.mode kv (L.map Prod.fst) sv) (hp:fX w' τ' aD s.ws.length s.parts A.pb pw sm sh iv sv kv (L.map Prod.fst) L w.heap.size) (ht:∀k,k<w.heap.size->τ' k=τ k)
 (hold:∀k,k<w.heap.size->k≠b->k≠A.wm->w'.heap[k]?=w.heap[k]?)
 (hb:aT w' b #[.int .i64 s.mode,A.cD,fy,gF,.int .i64 ((s.ws.length:Int)+1),.int .i64 s.rs.length,.map (some A.wm),.map (some A.R.rm)] 105)
 (hw:aK w' prog 3 A.wm (upd (cL s A) (.int .i64 ((s.ws.length:Int)+1)) (ptr pw))):
 aW w' τ' aD b (gl s L) (cN A s.ws.length pw sm sh iv sv):=by
 have hne:∀{k a c:Nat},τ k=(aD,a,c)->a≠0->a≠5->k<w.heap.size->w'.heap[k]?=w.heap[k]? :=by
  intro k a c htk h0 h5 hk;refine hold k hk (fun e=>?_) (fun e=>?_)
  ·rw[e,h.tag]at htk;simp at htk;omega
  ·rw[e,h.iU]at htk;simp at htk;omega
 have ahr:∀q,(jT L).dL q=false:=fun _=>rfl;refine⟨⟨h.ok.p1,h.ok.p4,by simp[gl];omega,fun j mj hj=>?_,h.ok.keys,h.ok.opn⟩,⟨fun j mj q hj hcm=>?_,fun j mj q hj Up=>?_,fun j mj q hj hcm=>?_⟩,?_,?_,by rw[ht b h.blk.lt,h.tag],?_,fun k hk=>?_,fun q hq=>?_,fun q hq=>?_,fun q hq=>?_,fun q hq=>?_,fun q hq=>?_,fun q hq=>?_,fun q hq=>?_,?_,?_,fun j mj hj ep=>?_,fun j mj hj ep=>?_,fun j mj hj ep=>?_,fun j mj hj ep=>?_,fun j mj q hj ep ho=>?_,fun j mj q hj ep ho=>?_,fun j mj q hj ep ho=>?_,fun j mj q k hj ep ho hk=>?_,h.reads.frame (fun k hk h1 JQ=>⟨hne (a:=(τ k).2.1) (c:=(τ k).2.2) (by rw[<-h1]) (by omega) (by omega) hk,ht k hk⟩),fun j mj hj=>?_⟩
 ·rcases eE hj with⟨_,e⟩|⟨_,rfl⟩
  ·exact h.ok.items j mj e
  ·exact⟨Hz,hlg⟩
 ·rcases eE hj with⟨_,e⟩|⟨_,rfl⟩
  ·exact h.inv.cp j mj q e hcm
  ·cases hcm
 ·rcases eE hj with⟨_,e⟩|⟨_,rfl⟩
  ·exact h.inv.po j mj q e Up
  ·cases Up
 ·rcases eE hj with⟨_,e⟩|⟨_,rfl⟩
  ·exact h.inv.cc j mj q e hcm
  ·rfl
 ·refine h.told.ws rfl rfl rfl rfl (fun j mj hj=>by
   rcases eE hj with⟨hjl,e⟩|⟨rfl,rfl⟩
   ·have:j≠s.ws.length:=by omega
    simp only[cN,this,if_false];exact h.told.sv j mj e
   ·simpa[cN]using SF.isIf) (fun j mj hj=>?_)
  have hjl:=aE hj;have:j≠s.ws.length:=by omega
  refine⟨mj,?_,rfl,fun _ hq=>hq,by simp[cN,this]⟩;simp only[gl];rw[List.getElem?_append_left hjl];exact hj
 ·have e:((gl s L).ws.length:Int)=(s.ws.length:Int)+1:=by simp[gl]
  rw[e];exact hb
 ·exact ak h.cD (fun k hk=>hne (h.eI k hk) (by omega) (by omega) (aR h.cD k hk).2)
 ·rw[ht k (aR h.cD k hk).2,h.eI k hk]
 ·exact(h.part q hq).of_eq (hne (h.cS q hq) (by omega) (by omega) (h.part q hq).lt)
 ·show τ' (A.pb q)=_;rw[ht _ (h.part q hq).lt,h.cS q hq]
 ·rw[Iy];exact(h.kept q hq).of_eq (hne (h.cC q hq) (by omega) (by omega) (h.kept q hq).lt)
 ·show τ' (A.kb q)=_;rw[ht _ (h.kept q hq).lt,h.cC q hq]
 ·exact(h.tH q hq).of_eq (hne (h.eZ q hq) (by omega) (by omega) (h.tH q hq).lt)
 ·show τ' (A.vb q)=_;rw[ht _ (h.tH q hq).lt,h.eZ q hq]
 ·refine og (h.l6 q hq) rfl (fun j mj hj ep=>⟨mj,?_,ep,rfl⟩) (fun j mj hj ep=>?_)
  ·simp only[gl];rw[List.getElem?_append_left (aE hj)];exact hj
  ·rcases eE hj with⟨_,e⟩|⟨_,rfl⟩
   ·exact⟨mj,e,ep,rfl⟩
   ·cases ep
 ·rw[C5];exact hw
 ·show τ' A.wm=_;rw[ht _ h.sC.lt,h.iU]
 ·rcases eE hj with⟨hjl,e⟩|⟨rfl,rfl⟩
  ·have hb':=h.wr j mj e ep;have:j≠s.ws.length:=by omega
   simp only[cN,this,if_false];exact hb'.of_eq (hne (h.fB j mj e ep) (by omega) (by omega) hb'.lt)
  ·simpa[cN]using hp.blk
 ·rcases eE hj with⟨hjl,e⟩|⟨rfl,rfl⟩
  ·have hb':=h.wr j mj e ep;have:j≠s.ws.length:=by omega
   simp only[cN,this,if_false];rw[ht _ hb'.lt,h.fB j mj e ep]
  ·simpa[cN]using hp.tag
 ·rcases eE hj with⟨hjl,e⟩|⟨rfl,rfl⟩
  ·have hb':=h.Pd j mj e ep;have hjn:j≠s.ws.length:=by omega
   have e1:bL (gl s L) (cN A s.ws.length pw sm sh iv sv) j mj=bL s A j mj:=by
    funext kl;cases kl with
    |int k n=>cases k<;>first|rfl|(simp only[bL,cN,hjn,if_false];rfl)
    |_=>rfl
   rw[e1];simp only[cN,hjn,if_false];exact hb'.of_eq (hne (h.jh j mj e ep) (by omega) (by omega) hb'.lt)
  ·have e1:bL (gl s L) (cN A s.ws.length pw sm sh iv sv) s.ws.length (jT L)=AM s.parts sh L:=by
    funext kl;cases kl with
    |int k n=>cases k<;>first|rfl|(simp only[bL,cN,if_true];rfl)
    |_=>rfl
   rw[e1];simpa[cN]using hp.map
 ·rcases eE hj with⟨hjl,e⟩|⟨rfl,rfl⟩
  ·have hb':=h.Pd j mj e ep;have:j≠s.ws.length:=by omega
   simp only[cN,this,if_false];rw[ht _ hb'.lt,h.jh j mj e ep]
  ·simpa[cN]using hp.gU
 ·rcases eE hj with⟨hjl,e⟩|⟨rfl,rfl⟩
  ·have hb':=h.sh j mj q e ep ho;have:j≠s.ws.length:=by omega
   simp only[cN,this,if_false];exact hb'.of_eq (hne (h.cG j mj q e ep ho) (by omega) (by omega) hb'.lt)
  ·have:=hp.LQ q ho;simpa[cN,bD,jT]using this
 ·rcases eE hj with⟨hjl,e⟩|⟨rfl,rfl⟩
  ·have hb':=h.sh j mj q e ep ho;have:j≠s.ws.length:=by omega
   simp only[cN,this,if_false];rw[ht _ hb'.lt,h.cG j mj q e ep ho]
  ·have:=hp.cG q ho;simpa[cN]using this
 ·rcases eE hj with⟨hjl,e⟩|⟨rfl,rfl⟩
  ·have hr:=h.it j mj q e ep ho;have:j≠s.ws.length:=by omega
   simp only[cN,this,if_false];exact ak hr (fun k hk=>hne (h.fA j mj q k e ep ho hk) (by omega) (by omega) (aR hr k hk).2)
  ·have:=hp.it q ho;simpa[cN,jT,gl]using this
 ·rcases eE hj with⟨hjl,e⟩|⟨rfl,rfl⟩
  ·have hr:=h.it j mj q e ep ho;have hjn:j≠s.ws.length:=by omega
   simp only[cN,hjn,if_false]at hk;rw[ht _ (aR hr k hk).2,h.fA j mj q k e ep ho hk]
  ·simp only[cN,if_true]at hk;exact hp.fA q k ho hk
 ·rcases eE hj with⟨hjl,e⟩|⟨rfl,rfl⟩
  ·have:j≠s.ws.length:=by omega
   simp only[cN,this,if_false];exact(h.La j mj e).of fun k hk htk=>⟨hne htk (by omega) (by omega) hk,ht k hk⟩
  ·simpa[cN,jT,gl]using SF.ok hp.ky hp.dF
end
end
section
open Go.Maps (Keyed)
section
variable {w:World}{τ:Nat->Tag}{aD b:Nat}{s:MS}{A:SA}{L:List KV}
theorem C6(hlen:s.ws.length<=200):∀kl,cL s A kl≠none->kl∈jI:=by
 intro kl h;cases kl with
 |int k n=>
  cases k<;>try exact absurd rfl h
  simp only[cL]at h;cases hf:bF s n with
  |none=>rw[hf]at h;exact absurd rfl h
  |some m=>obtain⟨h1,h2,_⟩:=eP hf;exact pR (by omega) (by omega)
 |_=>exact absurd rfl h
def Pe(w:World)(τ:Nat->Tag)(aD b:Nat)(r:Int×Int×MS)(e:Ending)(w':World):Prop:=
 ∃τ' A',e=.returned (.tuple #[.int .i64 r.1,.int .i64 r.2.1])/\aW w' τ' aD b r.2.2 A'/\Stp aD τ w τ' w'
theorem iw{s:Nat}(h:Below w.heap.size w w'):Stp s τ w τ w':=⟨h.os,h.tape,h.output,h.size,fun _ _=>rfl,fun k hk _=>h.block k hk⟩
theorem vV{L:List KV}(h:eC L=0):1<=L.length/\L.length<=8/\∀x∈L,gj x=true:=by
 unfold eC at h;split at h
 ·cases h
 ·exact⟨by omega,by omega,Ia h⟩
theorem Hy(h:aW w τ aD b s A)(a:Option Addr)(cap:Nat)(hL:L.length<=maxLen)(Sw:L.length<=cap)(hcm:cap<=maxLen)(hz:xI L)(hI:xH w a L)(hf:∀ib io,a=some ⟨ib,io,none⟩->(τ ib).1≠aD):
 Calls prog 26 #[ptr b,.slice a L.length cap] w (Pe w τ aD b (jD s L)):=by
 have cc:=yV a L cap hL Sw hcm hz hI;by_cases hc:eC L=0
 ·obtain⟨h1,h8,hg⟩:=vV hc;rw[hc]at cc;obtain⟨gb,go,rfl,hc0,_⟩:=hI 0 L[0] (zat (by omega));have hgb:gb<w.heap.size:=zav w _ hc0;have AL:=hf gb go rfl;have hcell:∀(k:Nat) (x:KV),L[k]?=some x->w.cell? ⟨gb,go+k*2,none⟩=some (.string x.1)/\w.cell? ⟨gb,go+k*2+1,none⟩=some (.string x.2):=fun k x hx=>by obtain⟨ib',io',e,r⟩:=hI k x hx;cases e;exact r
  have hlen:=h.ok.len;have hp1:=h.ok.p1;have HY:=h.ok.p4;by_cases hfull:200<=s.ws.length
  ·have Hr:Hid (jD s L=(0,6,s)):=by unfold Hid jD;rw[hc];simp[hfull]
   unfold ptr;clear hcell hI hf;go_enter_defers func26,ntmps26;go_wp2_with fail
   refine cc.mono ?_;rintro e w1 ⟨rfl,hB⟩;have hR:=h.below hB;have c2:w1.cell? ⟨b,2,none⟩=some (.int .i32 0):=hR.blk.cell (o:=2) rfl;have f2:=hR.blk.frozen 2;have iR:=hR.blk.set 2 (.int .i32 1);have c4:(w1.setCell ⟨b,2,none⟩ (.int .i32 1)).cell? ⟨b,4,none⟩=some (.int .i64 s.ws.length):=iR.cell (o:=4) rfl;have eF:=gm hR.blk (o:=2) rfl (.int .i32 1);unfold fy at eF;clear cc;go_wp2_with fail
   refine(lock_free Tryz.a9 ⟨b,2,none⟩ _ c2 f2).mono ?_;rintro e w' ⟨rfl,rfl⟩;go_wp2_with fail
   refine leaves_cons (f:=38) (args:=#[.pointer (some ⟨b,2,none⟩)]) (by simp) (by simp[go_sem]) ?_;refine(unlock_deferred Tryz.a9 ⟨b,2,none⟩ .returning _ (iR.cell (o:=2) rfl) (iR.frozen 2)).mono ?_;rintro e u' w'' ⟨rfl,rfl,rfl⟩;rw[Hr.out];exact⟨_,results_tmp2 rfl _ _ _,τ,A,rfl,hR.same eF,(iw hB).trans (eF.nG _ _)⟩
  ·have Hr:Hid (jD s L=((s.ws.length:Int)+1,0,gl s L)):=by unfold Hid jD;rw[hc];simp only[ne_eq,not_true,if_false,if_neg hfull];rfl
   unfold ptr;clear hI hf;go_enter_defers func26,ntmps26;go_wp2_with fail
   refine cc.mono ?_;rintro e w1 ⟨rfl,hB⟩;have hR:=h.below hB;have c2:w1.cell? ⟨b,2,none⟩=some (.int .i32 0):=hR.blk.cell (o:=2) rfl;have f2:=hR.blk.frozen 2;have iR:=hR.blk.set 2 (.int .i32 1);have c4:(w1.setCell ⟨b,2,none⟩ (.int .i32 1)).cell? ⟨b,4,none⟩=some (.int .i64 s.ws.length):=iR.cell (o:=4) rfl;have f4:(w1.setCell ⟨b,2,none⟩ (.int .i32 1)).frozen? ⟨b,4,none⟩=false:=iR.frozen 4;have kQ:=iR.set 4 (.int .i64 ((s.ws.length:Int)+1));clear cc;go_wp2_with fail
   refine(lock_free Tryz.a9 ⟨b,2,none⟩ _ c2 f2).mono ?_;rintro e w' ⟨rfl,rfl⟩;have LP:gb≠b:=fun e=>AL (by rw[e,h.tag]);have eK:∀k,k≠b->((w1.setCell ⟨b,2,none⟩ (.int .i32 1)).setCell ⟨b,4,none⟩ (.int .i64 ((s.ws.length:Int)+1))).heap[k]?=w1.heap[k]? :=fun k hk=>(zaq _ _ _ _ hk).trans (zaq _ _ _ _ hk);have Wc:((w1.setCell ⟨b,2,none⟩ (.int .i32 1)).setCell ⟨b,4,none⟩ (.int .i64 ((s.ws.length:Int)+1))).heap.size=w1.heap.size:=by simp[World.setCell]
   have Iz:((w1.setCell ⟨b,2,none⟩ (.int .i32 1)).setCell ⟨b,4,none⟩ (.int .i64 ((s.ws.length:Int)+1))).os=w1.os/\((w1.setCell ⟨b,2,none⟩ (.int .i32 1)).setCell ⟨b,4,none⟩ (.int .i64 ((s.ws.length:Int)+1))).tape=w1.tape/\((w1.setCell ⟨b,2,none⟩ (.int .i32 1)).setCell ⟨b,4,none⟩ (.int .i64 ((s.ws.length:Int)+1))).output=w1.output:=⟨rfl,rfl,rfl⟩
   go_wp2_with fail
   generalize (w1.setCell ⟨b,2,none⟩ (.int .i32 1)).setCell ⟨b,4,none⟩ (.int .i64 ((s.ws.length:Int)+1))=wC at *;have s0:wC.cell? ⟨b,0,none⟩=some (.int .i64 s.mode):=kQ.cell (o:=0) rfl;have s1:wC.cell? ⟨b,1,none⟩=some A.cD:=kQ.cell (o:=1) rfl;have s4:wC.cell? ⟨b,4,none⟩=some (.int .i64 ((s.ws.length:Int)+1)):=kQ.cell (o:=4) rfl;have s5:wC.cell? ⟨b,6,none⟩=some (.map (some A.wm)):=kQ.cell (o:=6) rfl;have Fh:wC.ownsRow 0 130 1 A.cD s.parts ((List.range s.parts).map (fun q=>ptr (A.pb q))):=ak hR.cD (fun k hk=>eK k (fun e=>by have h1:=h.eI k hk;rw[e,h.tag]at h1;simp at h1));have y5:∀(k:Nat) (x:KV),L[k]?=some x->wC.cell? ⟨gb,go+k*2,none⟩=some (.string x.1)/\wC.cell? ⟨gb,go+k*2+1,none⟩=some (.string x.2):=fun k x hx=>
    ⟨(zau (w:=w1) (eK gb LP)).trans ((hB.cell (p:=⟨gb,go+k*2,none⟩) hgb).trans (hcell k x hx).1),(zau (w:=w1) (eK gb LP)).trans ((hB.cell (p:=⟨gb,go+k*2+1,none⟩) hgb).trans (hcell k x hx).2)⟩
   have cn:=C4 (w:=wC.drew) (τ:=τ) (aD:=aD) (i:=s.ws.length) (P:=s.parts) (pb:=A.pb) (L:=L) b s.mode s0 A.cD s1 Fh hp1 HY gb go cap h1 h8 hg y5;unfold ptr at cn;have Pf:A.wm≠b:=fun e=>by have h1:=h.iU;rw[e,h.tag]at h1;simp at h1
   have hMC:aK wC prog 3 A.wm (cL s A):=hR.sC.of_eq (eK _ Pf);have We:=kQ.lt;have hn1: -9223372036854775808<=(s.ws.length:Int)+1:=by omega
   have hn2:(s.ws.length:Int)+1<=9223372036854775807:=by omega
   clear hcell y5 Fh c4 f4 s0;go_region_held3 (fun W=>W.cell? ⟨b,4,none⟩=some (.int .i64 ((s.ws.length:Int)+1))/\W.cell? ⟨b,6,none⟩=some (.map (some A.wm))) (simp[*]) ((go_at_call 48;refine cn.mono ?_;rintro e w2 ⟨τ',pw,sm,sh,iv,sv,kv,rfl,hPW,SF,dP,sP⟩;have k4:=(dP.cell (p:=⟨b,4,none⟩) We).trans s4;have k5:=(dP.cell (p:=⟨b,6,none⟩) We).trans s5;obtain⟨w3,hup,G0,hTu⟩:=(hMC.of_eq (w':=w2) (dP.block _ hMC.lt)).store (t:=102) (e:=118) eD underlying102 jI (C6 hlen) pS (keyOf_int hn1 hn2) (.pointer (some ⟨pw,0,none⟩));have C7:=rz.fR hTu;have m4:=(zau (w:=w2) (a:=⟨b,4,none⟩) (C7.block b (fun e=>Pf e.symm))).trans k4;have m5:=(zau (w:=w2) (a:=⟨b,6,none⟩) (C7.block b (fun e=>Pf e.symm))).trans k5))
   clear cn;go_wp2_with fail
   have BM:aT w3 b _ _:=(kQ.of_eq (dP.block b We)).of_eq (C7.block b (fun e=>Pf e.symm));refine leaves_cons (f:=38) (args:=#[.pointer (some ⟨b,2,none⟩)]) (by simp) (by simp[go_sem]) ?_;refine(unlock_deferred Tryz.a9 ⟨b,2,none⟩ .returning _ (BM.cell (o:=2) rfl) (BM.frozen 2)).mono ?_;rintro e u' w'' ⟨rfl,rfl,rfl⟩;rw[Hr.out];have IA:wC.drew.heap.size=w1.heap.size:=Wc;rw[IA]at hPW sP;have Og:w1.heap.size<=w2.heap.size:=by have:=dP.size;rw[IA]at this;exact this
   have aks:=hB.size;have hold:∀k,k<w1.heap.size->k≠b->k≠A.wm->(w3.setCell ⟨b,2,none⟩ (.int .i32 0)).heap[k]?=w1.heap[k]? :=fun k hk hkb hkm=>
    (zaq _ _ _ _ hkb).trans ((C7.block k hkm).trans ((dP.block k (by rw[IA];exact hk)).trans (eK k hkb)))
   have ae4:=hR.sC.lt;have vP:=hR.blk.lt;refine⟨_,results_tmp2 rfl _ _ _,τ',_,rfl,hR.push h8 hg (by omega) (w':=w3.setCell ⟨b,2,none⟩ (.int .i32 0)) SF (hPW.frame (fun k hk tu=>(zaq _ _ _ _ (by simp only;omega)).trans (C7.block k (by omega)))) sP hold ?_ (G0.of_eq (zaq _ _ _ _ Pf)),?_⟩
   ·have:=BM.set 2 (.int .i32 0);simpa[fy,gF]using this
   ·refine⟨C7.os.trans (dP.os.trans (Iz.1.trans hB.os)),C7.tape.trans (dP.tape.trans (Iz.2.1.trans hB.tape)),C7.output.trans (dP.output.trans (Iz.2.2.trans hB.output)),?_,fun k hk=>sP k (by omega),fun k hk hs=>?_⟩
    ·have:=C7.size;simp[World.setCell];omega
    ·exact(hold k (by omega) (fun e=>hs (by rw[e,h.tag])) (fun e=>hs (by rw[e,h.iU]))).trans (hB.block k hk)
 ·have Hr:Hid (jD s L=(0,eC L,s)):=by unfold Hid jD;simp[hc]
  have hne:(eC L != 0)=true:=by rw[bne_iff_ne];exact hc
  generalize eC L=c at *;unfold ptr;clear hI hf;go_enter_defers func26,ntmps26;go_wp2_with fail
  refine cc.mono ?_;rintro e w1 ⟨rfl,hB⟩;clear cc;go_wp2_with fail
  rw[Hr.out];exact⟨_,results_tmp2 rfl _ _ _,τ,A,rfl,h.below hB,iw hB⟩
end
end
section
open Go.Maps (Keyed)
def bR(w:World):World:=((w.alloc (.map #[] 0)).alloc (.map #[] 0)).alloc (.cells #[fy,gF,.map (some w.heap.size),.map (some (w.heap.size+1))] 202)
theorem Fi(w:World):Calls prog 67 #[] w fun e w'=>e=.returned (ptr (w.heap.size+2))/\w'=bR w:=by have GU:=@run_makeMap prog;unfold ptr;go_enter func67,ntmps67;go_wp2;go_ret;exact⟨rfl,rfl⟩
theorem Pg:(prog.info? 130).map (fun i=>(i.zero,i.size,i.bytes))=some (some (.pointer none),1,8):=by kernel_rfl
structure LS(w:World)(τ:Nat->Tag)(aD q pb kb vb:Nat):Prop where
 blk:aT w pb #[fy,gF,.map (some kb),.map (some vb)] 202
 kept:aK w prog 3 kb (fun _=>none)
 vis:aK w prog 9 vb (fun _=>none)
 t1:τ pb=(aD,2,q)
 t2:τ kb=(aD,3,q)
 t3:τ vb=(aD,4,q)
structure BO(w:World)(τ:Nat->Tag)(aD sb wm rm:Nat)(mode:Int)(k:Nat)(cD:Value)(pb kb vb:Nat->Nat)(B0:Nat):Prop where
 blk:aT w sb #[.int .i64 mode,cD,fy,gF,.int .i64 0,.int .i64 0,.map (some wm),.map (some rm)] 105
 tag:τ sb=(aD,0,0)
 sC:aK w prog 3 wm (fun _=>none)
 iU:τ wm=(aD,5,0)
 qR:aK w prog 3 rm (fun _=>none)
 gS:τ rm=(aD,10,0)
 row:w.ownsRow 0 130 1 cD k ((List.range k).map (fun q=>ptr (pb q)))
 eI:∀j,cD.ownBlock=some j->τ j=(aD,1,0)
 part:∀q,q<k->LS w τ aD q (pb q) (kb q) (vb q)
 lo:B0<=sb/\B0<=wm/\B0<=rm/\∀j,cD.ownBlock=some j->B0<=j
theorem BO.rep{sb wm rm:Nat}{mode:Int}(h:BO w τ aD sb wm rm mode k cD pb kb vb B0)(h1:1<=k)(h4:k<=4):
 ∃A,aW w τ aD sb {parts:=k,mode:=mode,ws:= [],rs:= []} A:=by
 refine⟨{cD:=cD,pb:=pb,kb:=kb,vb:=vb,wm:=wm,pw:=fun _=>0,sm:=fun _=>0,sh:=fun _ _=>0,iv:=fun _ _=>.slice none 0 0,sv:=fun _=>.nilIface,vis:=fun _ _=>0,R:={rm:=rm,pr:=fun _=>0,qm:=fun _=>0,qb:=fun _ _=>0,no:=fun _=>false,ks:=fun _=>.slice none 0 0,hv:=fun _ _=>false,tv:=fun _ _=>⟨#[]⟩,ts:=fun _ _=>.nilIface}},⟨h1,h4,by simp,fun i m hm=>by simp at hm,fun i m hm=>by simp at hm,by simp[cj]⟩,⟨fun i m q hm=>by simp at hm,fun i m q hm=>by simp at hm,fun i m q hm=>by simp at hm⟩,⟨fun i m hm=>by simp at hm,fun i m hm=>by simp at hm,fun i m j hm=>by simp at hm,fun i m j x hm=>by simp at hm,fun i m j x hm=>by simp at hm,fun i m j x hm=>by simp at hm,fun i m j x hm=>by simp at hm⟩,h.blk,h.tag,h.row,h.eI,fun q hq=>(h.part q hq).blk,fun q hq=>(h.part q hq).t1,fun q hq=>?_,fun q hq=>(h.part q hq).t2,fun q hq=>?_,fun q hq=>(h.part q hq).t3,fun q hq=>⟨fun l hl=>absurd rfl hl,fun i m x hm=>by simp at hm⟩,?_,h.iU,fun i m hm=>by simp at hm,fun i m hm=>by simp at hm,fun i m hm=>by simp at hm,fun i m hm=>by simp at hm,fun i m q hm=>by simp at hm,fun i m q hm=>by simp at hm,fun i m q hm=>by simp at hm,fun i m q j hm=>by simp at hm,⟨h.qR.congr (fun kl=>?_),h.gS,fun i m hm=>by simp at hm,fun i m hm=>by simp at hm,fun i m hm=>by simp at hm,fun i m hm=>by simp at hm,fun i m q x hm=>by simp at hm,fun i m q x hm=>by simp at hm,fun i m hm=>by simp at hm,fun i m q hm=>by simp at hm⟩,fun i m hm=>by simp at hm⟩
 ·refine(h.part q hq).kept.congr (fun kl=>?_);cases kl with
  |int kd n=>cases kd<;>first|rfl|simp[bE,bF]
  |_=>rfl
 ·refine(h.part q hq).vis.congr (fun kl=>?_);cases kl<;>simp[C8]
 ·refine h.sC.congr (fun kl=>?_);cases kl with
  |int kd n=>cases kd<;>first|rfl|simp[cL,bF]
  |_=>rfl
 ·cases kl with
  |int kd n=>cases kd<;>first|rfl|simp[dc,fO]
  |_=>rfl
theorem y7(w:World):Below w.heap.size w (bR w.drew):=
 (((Below.refl _ w).drew.alloc (zas _) _).alloc (by simp) _).alloc (by simp;omega) _
theorem BP(w:World):(bR w.drew).heap.size=w.heap.size+3:=by simp[bR]
theorem LU{wr:World}{τ1:Nat->Tag}{mode:Int}(hM:BO wr τ1 aD (w.heap.size+2) w.heap.size (w.heap.size+1) mode k cD pb kb vb w.heap.size)(hB:Below w.heap.size w wr)(HT:∀k,k<w.heap.size->τ1 k=τ k)
 (hO:w2.ownsRow 0 130 1 v2 (k+1) ((List.range k).map (fun q=>ptr (pb q))++ [.pointer (some ⟨wr.heap.size+2,0,none⟩)])) (hG:((bR wr.drew).alloc o).grownBy w2 cD.ownBlock) (hA:v2.ownBlock=cD.ownBlock\/v2.ownBlock=some ((bR wr.drew).alloc o).heap.size):
 ∃(τ':Nat->Tag) (pb' kb' vb':Nat->Nat),BO (w2.setCell ⟨w.heap.size+2,1,none⟩ v2) τ' aD (w.heap.size+2) w.heap.size (w.heap.size+1) mode (k+1) v2 pb' kb' vb' w.heap.size/\Below w.heap.size w (w2.setCell ⟨w.heap.size+2,1,none⟩ v2)/\∀k,k<w.heap.size->τ' k=τ k:=by
 have Rx:=hM.blk.lt;have O9:=hM.sC.lt;have hps:=BP wr;have Wf:=y7 wr;have hsz:wr.heap.size+4<=w2.heap.size:=by have:=hG.size;simp at this;omega
 have hBs:=hB.size;have zb:∀j,j<wr.heap.size+3->j≠w.heap.size+2->cD.ownBlock≠some j->(w2.setCell ⟨w.heap.size+2,1,none⟩ v2).heap[j]?=(bR wr.drew).heap[j]? :=fun j hj h1 h2=>
  (zaq _ _ _ _ h1).trans ((hG.block j (by simp;omega) (fun e=>h2 e.symm)).trans (zar _ _ _ (by omega)))
 have zo:∀j,j<wr.heap.size->j≠w.heap.size+2->cD.ownBlock≠some j->(w2.setCell ⟨w.heap.size+2,1,none⟩ v2).heap[j]?=wr.heap[j]? :=fun j hj h1 h2=>(zb j (by omega) h1 h2).trans (Wf.block j hj);have hpl:∀j,cD.ownBlock=some j->j<wr.heap.size:=fun j hj=>(aR hM.row j hj).2;have hv:∀j,v2.ownBlock=some j->cD.ownBlock=some j\/wr.heap.size+4<=j:=fun j hj=>by
  rcases hA with e|e
  ·exact Or.inl (by rw[<-e];exact hj)
  ·rw[hj]at e;have:=Option.some.inj e;simp at this;exact Or.inr (by omega)
 have Nc:∀{j a c:Nat},τ1 j=(aD,a,c)->a≠1->cD.ownBlock≠some j:=fun ht ha e=>by have:=hM.eI _ e;rw[ht]at this;simp at this;omega
 have hst:∀{j a c:Nat},τ1 j=(aD,a,c)->a≠0->j≠w.heap.size+2:=fun ht ha e=>by have:=hM.tag;rw[<-e,ht]at this;simp at this;omega
 have hrb:cD.ownBlock≠some (w.heap.size+2):=Nc hM.tag (by omega);have kJ:∀j,j<wr.heap.size->(if j=wr.heap.size+2 then(aD,2,k)else if j=wr.heap.size then(aD,3,k)else if j=wr.heap.size+1 then(aD,4,k)else if v2.ownBlock=some j then(aD,1,0)else τ1 j)=τ1 j:=by
  intro j hj;rw[if_neg (by omega),if_neg (by omega),if_neg (by omega)];split
  ·rename_i e;rcases hv j e with e1|e1
   ·rw[hM.eI j e1]
   ·omega
  ·rfl
 refine⟨fun j=>if j=wr.heap.size+2 then(aD,2,k)else if j=wr.heap.size then(aD,3,k)else if j=wr.heap.size+1 then(aD,4,k)else if v2.ownBlock=some j then(aD,1,0)else τ1 j,
  fun q=>if q=k then wr.heap.size+2 else pb q,fun q=>if q=k then wr.heap.size else kb q,fun q=>if q=k then wr.heap.size+1 else vb q,⟨?_,?_,?_,?_,?_,?_,?_,fun j hj=>?_,fun q hq=>?_,hM.lo.1,hM.lo.2.1,hM.lo.2.2.1,fun j hj=>?_⟩,?_,?_⟩
 ·have h1:aT w2 (w.heap.size+2) _ _:=hM.blk.of_eq ((hG.block _ (by simp;omega) (fun e=>hrb e.symm)).trans ((zar _ _ _ (by omega)).trans (Wf.block _ Rx)));simpa using h1.set 1 v2
 ·rw[kJ _ Rx,hM.tag]
 ·exact hM.sC.of_eq (zo _ O9 (by omega) (Nc hM.iU (by omega)))
 ·rw[kJ _ O9,hM.iU]
 ·exact hM.qR.of_eq (zo _ hM.qR.lt (by omega) (Nc hM.gS (by omega)))
 ·rw[kJ _ hM.qR.lt,hM.gS]
 ·have e:(List.range (k+1)).map (fun q=>ptr (if q=k then wr.heap.size+2 else pb q))=(List.range k).map (fun q=>ptr (pb q))++ [.pointer (some ⟨wr.heap.size+2,0,none⟩)]:=by
   rw[List.range_succ,List.map_append];congr 1
   ·refine List.map_congr_left (fun q hq=>?_);have:q≠k:=by have:=List.mem_range.1 hq;omega
    simp[this]
   ·simp[ptr]
  rw[e];exact ak hO (fun j hj=>zaq _ _ _ _ (fun e=>by
   rcases hv j hj with e1|e1
   ·exact hrb (by rw[e1,e])
   ·have:j=w.heap.size+2:=e;omega))
 ·rcases hv j hj with e1|e1
  ·rw[kJ j (hpl j e1),hM.eI j e1]
  ·rw[if_neg (by omega),if_neg (by omega),if_neg (by omega),if_pos hj]
 ·by_cases e:q=k
  ·subst e;simp only[if_true];have hno:∀j,wr.heap.size<=j->cD.ownBlock≠some j:=fun j hj e=>by have:=hpl j e;omega
   have f3:∀(o1 o2:Obj) (j:Nat),j<wr.heap.size+1->((wr.drew.alloc o1).alloc o2).heap[j]?=(wr.drew.alloc o1).heap[j]? :=fun o1 o2 j hj=>zar _ _ _ (by simp;omega);refine⟨?_,?_,?_,?_,?_,?_⟩
   ·have h1:aT (bR wr.drew) (wr.heap.size+2) #[fy,gF,.map (some wr.heap.size),.map (some (wr.heap.size+1))] 202:=by have:=aT.new ((wr.drew.alloc (.map #[] 0)).alloc (.map #[] 0)) #[fy,gF,.map (some wr.drew.heap.size),.map (some (wr.drew.heap.size+1))] 202;simpa[bR]using this
    exact h1.of_eq (zb _ (by omega) (by omega) (hno _ (by omega)))
   ·have h1:aK (bR wr.drew) prog 3 wr.heap.size (fun _=>none):=(aK.made wr.drew prog 3).of_eq ((zar _ _ _ (by show wr.heap.size< ((wr.drew.alloc _).alloc _).heap.size;simp;omega)).trans (f3 _ _ _ (by show wr.heap.size<wr.heap.size+1;omega)));exact h1.of_eq (zb _ (by omega) (by omega) (hno _ (by omega)))
   ·have h1:aK (bR wr.drew) prog 9 (wr.heap.size+1) (fun _=>none):=by have:=(aK.made (wr.drew.alloc (.map #[] 0)) prog 9).of_eq (w':=bR wr.drew) (zar _ _ _ (by simp));simpa using this
    exact h1.of_eq (zb _ (by omega) (by omega) (hno _ (by omega)))
   ·simp
   ·simp
   ·simp
  ·have fU:q<k:=by omega
   have hF:=hM.part q fU;simp only[e,if_false];exact⟨hF.blk.of_eq (zo _ hF.blk.lt (hst hF.t1 (by omega)) (Nc hF.t1 (by omega))),hF.kept.of_eq (zo _ hF.kept.lt (hst hF.t2 (by omega)) (Nc hF.t2 (by omega))),hF.vis.of_eq (zo _ hF.vis.lt (hst hF.t3 (by omega)) (Nc hF.t3 (by omega))),
    by rw[kJ _ hF.blk.lt,hF.t1],by rw[kJ _ hF.kept.lt,hF.t2],by rw[kJ _ hF.vis.lt,hF.t3]⟩
 ·rcases hv j hj with e1|e1
  ·exact hM.lo.2.2.2 j e1
  ·omega
 ·refine⟨hG.os.trans (Wf.os.trans hB.os),hG.tape.trans (Wf.tape.trans hB.tape),hG.output.trans (Wf.output.trans hB.output),by simp[World.setCell];omega,fun j hj=>?_⟩;exact(zo j (by omega) (by omega) (fun e=>by have:=hM.lo.2.2.2 j e;omega)).trans (hB.block j hj)
 ·intro j hj;simp only;rw[kJ j (by omega)];exact HT j hj
theorem XL(parts mode:Int)(w:World)(h1:1<=parts)(h2:parts<=4)(h:pE mode=false):
 Calls prog 34 #[.int .i64 parts,.int .i64 mode] w fun e w'=>e=.returned (.tuple #[.pointer none,.int .i64 2])/\w'=w:=by
 have g1:¬parts<1:=by omega
 have g2:¬4<parts:=by omega
 have c:=yS mode w;rw[h]at c;clear h;go_enter func34,ntmps34;go_wp2_with (go_at_call 66;refine c.mono ?_;rintro e w' ⟨rfl,rfl⟩)
 go_ret2
 exact⟨rfl,rfl⟩
theorem BG(parts mode:Int)(w:World)(τ:Nat->Tag)(aD:Nat)(h1:1<=parts)(h2:parts<=4)(h:pE mode=true):
 Calls prog 34 #[.int .i64 parts,.int .i64 mode] w fun e w'=>∃τ' sb A,e=.returned (.tuple #[ptr sb,.int .i64 0])/\aW w' τ' aD sb {parts:=parts.toNat,mode:=mode,ws:= [],rs:= []} A/\Below w.heap.size w w'/\(∀k,k<w.heap.size->τ' k=τ k)/\w.heap.size<=sb:=by
 have g1:¬parts<1:=by omega
 have g2:¬4<parts:=by omega
 have c:=yS mode w;rw[h]at c;clear h;have GU:=@run_makeMap prog;obtain⟨pi,hpi,hp0,ae8,Rp⟩:=info_parts Pg;obtain⟨n,rfl⟩:=Int.eq_ofNat_of_zero_le (show 0<=parts by omega);go_enter func34,ntmps34;go_wp2_with (go_at_call 66;refine c.mono ?_;rintro e w' ⟨rfl,hw⟩;obtain rfl:=hw.symm)
 go_loopw [22] (fun u wr=>∃(k:Nat) (τ':Nat->Tag) (cD:Value) (pb kb vb:Nat->Nat),k<=n/\u=.int .i64 k/\BO wr τ' aD (w.heap.size+2) w.heap.size (w.heap.size+1) mode k cD pb kb vb w.heap.size/\Below w.heap.size w wr/\Hid (∀k,k<w.heap.size->τ' k=τ k)) (fun u _=>n-(intOf u).toNat)
 case atStart=>
  refine⟨0,fun k=>if k=w.heap.size+2 then(aD,0,0)else if k=w.heap.size then(aD,5,0)else if k=w.heap.size+1 then(aD,10,0)else τ k,.slice none 0 0,fun _=>0,fun _=>0,fun _=>0,zaw _,rfl,⟨?_,by simp,(aK.made w prog 3).of_eq ((zar _ _ _ (by simp;omega)).trans (zar _ _ _ (by simp))),by simp,?_,by simp,World.ownsRow_nil _ _ _ _,fun j hj=>(by cases hj),fun q hq=>(by omega),by omega,by omega,by omega,fun j hj=>(by cases hj)⟩,?_,fun k hk=>?_⟩
  ·have:=aT.new ((w.alloc (.map #[] 0)).alloc (.map #[] 0)) #[.int .i64 mode,.slice none 0 0,fy,gF,.int .i64 0,.int .i64 0,.map (some w.heap.size),.map (some (w.heap.size+1))] 105;simpa[fy,gF]using this
  ·have:=(aK.made (w.alloc (.map #[] 0)) prog 3)
   have e:(w.alloc (.map #[] 0)).heap.size=w.heap.size+1:=by simp
   rw[e]at this;exact this.of_eq (zar _ _ _ (by simp))
  ·exact(((Below.refl _ _).alloc (zas _) _).alloc (by simp) _).alloc (by simp;omega) _
  ·have e1:k≠w.heap.size+2:=by omega
   have e2:k≠w.heap.size:=by omega
   have e3:k≠w.heap.size+1:=by omega
   simp[e1,e2,e3]
 case round=>
  obtain⟨k,τ1,cD,pb,kb,vb,hk,rfl,hM,hB,HT⟩:=hrel;by_cases hlt:k<n
  ·obtain⟨av,cv,hpv⟩:=gH hM.row;have c1:wr.cell? ⟨w.heap.size+2,1,none⟩=some cD:=hM.blk.cell (o:=1) rfl;have vP:=hM.blk.lt;have HS:Hid (∀(w2:World) (v2:Value) (o:Obj),w2.ownsRow 0 130 1 v2 (k+1) ((List.range k).map (fun q=>ptr (pb q))++ [.pointer (some ⟨wr.heap.size+2,0,none⟩)])->((bR wr.drew).alloc o).grownBy w2 cD.ownBlock->(v2.ownBlock=cD.ownBlock\/v2.ownBlock=some ((bR wr.drew).alloc o).heap.size)->
    ∃(τ':Nat->Tag) (pb' kb' vb':Nat->Nat),BO (w2.setCell ⟨w.heap.size+2,1,none⟩ v2) τ' aD (w.heap.size+2) w.heap.size (w.heap.size+1) mode (k+1) v2 pb' kb' vb' w.heap.size/\Below w.heap.size w (w2.setCell ⟨w.heap.size+2,1,none⟩ v2)/\∀k,k<w.heap.size->τ' k=τ k):=
    fun w2 v2 o a1 a2 a3=>LU hM hB HT.out a1 a2 a3
   have Rk:Below wr.heap.size wr (bR wr.drew):=y7 wr;have hPs:(bR wr.drew).heap.size=wr.heap.size+3:=BP wr;have cP:(bR wr.drew).cell? ⟨w.heap.size+2,1,none⟩=some cD:=(Rk.cell (p:=⟨w.heap.size+2,1,none⟩) vP).trans c1;have cPa:∀o,((bR wr.drew).alloc o).cell? ⟨w.heap.size+2,1,none⟩=some cD:=fun o=>(zau (w:=bR wr.drew) (zar _ _ _ (by rw[hPs];simp only;omega))).trans cP;have aaw:(bR wr.drew).ownsRow 0 130 1 cD k ((List.range k).map (fun q=>ptr (pb q))):=ak hM.row (fun j hj=>Rk.block j (aR hM.row j hj).2);have hrb:cD.ownBlock≠some (w.heap.size+2):=fun e=>by have h1:=hM.eI _ e;rw[hM.tag]at h1;simp at h1
   have HBG:Hid (∀(w2:World) (o:Obj),((bR wr.drew).alloc o).grownBy w2 cD.ownBlock->aT w2 (w.heap.size+2) #[.int .i64 mode,cD,fy,gF,.int .i64 0,.int .i64 0,.map (some w.heap.size),.map (some (w.heap.size+1))] 105):=
    fun w2 o hG=>hM.blk.of_eq ((hG.block _ (by simp;omega) (fun e=>hrb e.symm)).trans ((zar _ _ _ (by omega)).trans (Rk.block _ vP)))
   clear hPs;have cn:=Fi wr.drew;unfold ptr at cn;have hdz:wr.drew.heap.size+2=wr.heap.size+2:=rfl;rw[hdz]at cn;subst hpv;generalize (List.range k).map (fun q=>ptr (pb q))=xs at *;go_wp2_with fail
   go_region_law (first|(refine lu rfl (.tmp 28) (.tmp 30) 94 rfl 0 130 pi _ 1 8 underlying94 hpi hp0 ae8 Rp rfl (by decide) (.slice av k cv) k xs rfl (aaw.alloc _) ⟨_,0,none⟩ 1 1 [.pointer (some ⟨wr.heap.size+2,0,none⟩)] rfl rfl (cell_one_new _ _ _) (by simp[Value.oneCell']) (by unfold maxLen;omega) (by omega) (zaw _) ?_;intro v2 w2 AA qO Oc hA2;have kQ:=HBG.out w2 _ qO;have d1:=kQ.cell (o:=1) (v:=.slice av k cv) rfl;have e1:=kQ.frozen 1;obtain⟨g2,cap2,yR,-⟩:=dJ AA (by omega);rw[yR])|(go_simp;go_at_call 67;refine cn.mono ?_;rintro e w5 ⟨rfl,rfl⟩))
   all_goals
    obtain⟨τ2,pb2,kb2,vb2,r1,r2,r3⟩:=HS.out w2 v2 _ AA qO hA2
    have R3:Hid (∀k,k<w.heap.size->τ2 k=τ k):=r3
    rw[yR]at r1 r2
    clear r3 cn
    go_wp2_with fail
    go_roundw
    case rel=>exact⟨k+1,τ2,_,pb2,kb2,vb2,by omega,by go_num,r1,r2,R3⟩
    case measure=>simp[intOf];omega
  ·have hkn:k=n:=by omega
   obtain⟨A,hA⟩:=hM.rep (by omega) (by omega);go_wp2_with fail
   go_ret2
   refine⟨τ1,w.heap.size+2,A,rfl,?_,hB,HT.out,by omega⟩;rw[Int.toNat_natCast,<-hkn];exact hA
end
section
section
variable {w:World}
theorem LV(key:ByteArray)(gb go:Nat)(L:List ByteArray)(cap:Nat)(h8:L.length<=8)(hcell:∀(k:Nat) (x:ByteArray),L[k]?=some x->w.cell? ⟨gb,go+k,none⟩=some (.string x))(n:Nat)(hn:n<=L.length):
 Calls prog 106 #[.slice (some ⟨gb,go,none⟩) n cap,.string key] w fun e w'=>(∃i:Int,e=.returned (.int .i64 i)/\(dX (L.take n) key=decide (0<=i)))/\w'=w:=by
 go_enter func106,ntmps106;go_wp2_with fail
 go_loop [8] (fun u=>∃k:Nat,k<=n/\u=.int .i64 k/\Hid (∀j y,j<k->L[j]?=some y->y≠key)) (fun u=>n-(intOf u).toNat)
 case atStart=>exact⟨0,zaw _,rfl,fun j y hj=>by omega⟩
 case round=>
  obtain⟨k,hk,rfl,HO⟩:=hrel;by_cases hlt:k<n
  ·have Ix:k<L.length:=by omega
   have hx:L[k]?=some L[k]:=zat Ix;have ck:=hcell k _ hx;clear hcell;generalize L[k]=kk at *;by_cases he:key=kk
   ·have Hr:Hid (dX (L.take n) key=true):=yd hlt hx he.symm;have hb:=sY he;clear he hx;go_wp2_with fail
    go_ret;exact⟨⟨k,rfl,by rw[Hr.out];simp⟩,rfl⟩
   ·have Ry:Hid (∀j y,j<k+1->L[j]?=some y->y≠key):=by
     intro j y hj hy;by_cases e:j=k
     ·subst e;rw[hx]at hy;cases hy;exact fun e=>he e.symm
     ·exact HO.out j y (by omega) hy
    have hb:=sX he;clear he hx;go_wp2_with fail
    go_round
    case rel=>exact⟨k+1,by omega,by go_num,Ry⟩
    case measure=>simp[intOf];omega
  ·have Hr:Hid (dX (L.take n) key=false):=yf (fun j y hj=>HO.out j y (by omega));clear hcell;go_wp2_with fail
   go_ret;exact⟨⟨-1,rfl,by rw[Hr.out];simp⟩,rfl⟩
theorem AO(key:ByteArray)(gb go:Nat)(L:List ByteArray)(cap:Nat)(h8:L.length<=8)(hcell:∀(k:Nat) (x:ByteArray),L[k]?=some x->w.cell? ⟨gb,go+k,none⟩=some (.string x))(n:Nat)(hn:n<=L.length):
 Calls prog 69 #[.slice (some ⟨gb,go,none⟩) n cap,.string key] w fun e w'=>e=.returned (.bool (dX (L.take n) key))/\w'=w:=by
 have c:=LV key gb go L cap h8 hcell n hn;clear hcell;go_enter func69,ntmps69;go_wp2_with fail
 refine c.mono ?_;rintro e w' ⟨⟨i,rfl,Hi⟩,rfl⟩;have HI:Hid (dX (L.take n) key=decide (0<=i)):=Hi;clear c Hi;go_wp2_with fail
 go_ret;exact⟨dH HI.out.symm,rfl⟩
theorem y8(a:Option Addr)(L:List ByteArray)(cap:Nat)(hL:L.length<=maxLen)(hs:L.length<1\/8<L.length):
 Calls prog 36 #[.slice a L.length cap] w fun e w'=>e=.returned (.int .i64 (iH L))/\w'=w:=by
 have Hr:Hid (iH L=3):=by unfold Hid iH;rw[if_pos hs]
 unfold maxLen at hL;have cz:=oc L.length w;have hg:gx L.length=false:=by
  unfold gx;rcases hs with e|e
  ·rw[decide_eq_false (by omega)];rfl
  ·rw[Bool.and_eq_false_iff];exact Or.inr (decide_eq_false (by omega))
 rw[hg]at cz;clear hs hg;go_enter func36,ntmps36;go_wp2_with (go_at_call 68;refine cz.mono ?_;rintro e w' ⟨rfl,rfl⟩)
 go_ret;exact⟨iu Hr.out.symm,rfl⟩
theorem y9(gb go:Nat)(L:List ByteArray)(cap:Nat)(h1:1<=L.length)(h8:L.length<=8)(Sw:L.length<=cap)(hcm:cap<=maxLen)(hz:∀x∈L,x.size<=maxLen)
 (hcell:∀(k:Nat) (x:ByteArray),L[k]?=some x->w.cell? ⟨gb,go+k,none⟩=some (.string x)):
 Calls prog 36 #[.slice (some ⟨gb,go,none⟩) L.length cap] w fun e w'=>e=.returned (.int .i64 (iH L))/\w'=w:=by
 have HC:Hid (iH L=fI [] L):=by unfold Hid iH;rw[if_neg (by omega)]
 unfold maxLen at hcm;have cz:=oc L.length w;have AL:gx L.length=true:=by unfold gx;rw[decide_eq_true (show (1:Int)<=L.length by omega),decide_eq_true (show (L.length:Int)<=8 by omega)];rfl
 rw[AL]at cz;clear AL;go_enter func36,ntmps36;go_wp2_with (go_at_call 68;refine cz.mono ?_;rintro e w' ⟨rfl,hw0⟩;obtain rfl:=hw0.symm)
 clear cz;go_loop [11] (fun u=>∃k:Nat,k<=L.length/\u=.int .i64 k/\Hid (fI [] L=fI (L.take k) (L.drop k))) (fun u=>L.length-(intOf u).toNat)
 case atStart=>exact⟨0,zaw _,rfl,by simp[Hid]⟩
 case round=>
  obtain⟨k,hk,rfl,HK⟩:=hrel;by_cases hlt:k<L.length
  ·have hx:L[k]?=some L[k]:=zat hlt;have c1:=hcell k _ hx;have hs1:=hz _ (List.getElem_mem hlt);have ck:=u7 L[k] w hs1;have cc:=AO (w:=w) L[k] gb go L cap h8 hcell k hk;generalize L[k]=kk at *;unfold maxLen at hs1;cases yB:bK kk with
   |false=>
    have Hr:Hid (iH L=4):=by unfold Hid;rw[HC.out,HK.out,za hx,SG yB]
    rw[yB]at ck;clear yB hx hcell cc;go_wp2_with (go_at_call 49;refine ck.mono ?_;rintro e w' ⟨rfl,rfl⟩)
    go_ret;exact⟨iu Hr.out.symm,rfl⟩
   |true=>
    rw[yB]at ck;cases hh:dX (L.take k) kk with
    |true=>
     have Hr:Hid (iH L=5):=by unfold Hid;rw[HC.out,HK.out,za hx,LW yB hh]
     rw[hh]at cc;clear yB hx hh hcell;go_wp2_with (first|(go_at_call 49;refine ck.mono ?_;rintro e w' ⟨rfl,rfl⟩)|(go_at_call 69;refine cc.mono ?_;rintro e w' ⟨rfl,rfl⟩))
     go_ret;exact⟨iu Hr.out.symm,rfl⟩
    |false=>
     have HK':Hid (fI [] L=fI (L.take (k+1)) (L.drop (k+1))):=by unfold Hid;rw[HK.out,za hx,Wh yB hh,Pj hx]
     rw[hh]at cc;clear yB hx hh hcell;go_wp2_with (first|(go_at_call 49;refine ck.mono ?_;rintro e w' ⟨rfl,rfl⟩)|(go_at_call 69;refine cc.mono ?_;rintro e w' ⟨rfl,rfl⟩))
     go_round
     case rel=>exact⟨k+1,by omega,by go_num,HK'⟩
     case measure=>simp[intOf];omega
  ·have Hr:Hid (iH L=0):=by unfold Hid;rw[HC.out,HK.out,show k=L.length from by omega,List.drop_length];rfl
   clear hcell;go_wp2_with fail
   go_ret;exact⟨iu Hr.out.symm,rfl⟩
end
end
section
open Go.Maps (Keyed)
def Hit(n:Int)(ws:List MW)(key:ByteArray)(i:Nat):Prop:=∃m,ws[i]?=some m/\aH m.items key=true/\m.comm (partOf n key).toNat=true
theorem Pm{ws:List MW}{key:ByteArray}:∀(k v:Nat),v<=k->(v≠0->Hit n ws key (v-1))->(∀i,i<k->Hit n ws key i->i+1<=v)->pJ n ws key k=v:=by
 intro k;induction k with
 |zero=>intro v h1 _ _;simp[pJ];omega
 |succ k ih=>
  intro v h1 hs ht;by_cases hh:Hit n ws key k
  ·have:=ht k (by omega) hh;obtain⟨m,hm,a,b⟩:=hh;rw[LX hm a b];omega
  ·have hv:v<=k:=by
    apply Classical.byContradiction;intro e;have:v=k+1:=by omega
    subst this;exact hh (hs (by omega))
   have hr:=ih v hv hs (fun i hi=>ht i (by omega));rw[<-hr];show pJ n ws key (k+1)=_;simp only[pJ];split
   ·rename_i m hm;rw[if_neg (fun e=>hh ⟨m,hm,by simpa using e⟩)]
   ·rfl
theorem Fj(w:World):(zeroValue 106).run prog w=.ok (.pointer none) w:=by rw[Tryz.zeroValue106]
theorem jQ(w:World):(zeroValue 139).run prog w=.ok (.pointer none) w:=by rw[Tryz.zeroValue139]
section
variable {w:World}{τ:Nat->Tag}{aD b:Nat}{s:MS}{A:SA}
theorem aW.Pn(h:aW w τ aD b s A)(key:ByteArray):A.vis (partOf s.parts key).toNat key.data.toList=aU s key:=by
 have hp1:=h.ok.p1;obtain⟨h0,h1⟩:=eM s.parts key (by omega);have hq:(partOf s.parts key).toNat<s.parts:=by omega
 have hv:=h.l6 _ hq;symm;unfold aU;refine Pm _ _ ?_ (fun hne=>?_) (fun i hi hh=>?_)
 ·by_cases e:A.vis (partOf s.parts key).toNat key.data.toList=0
  ·omega
  ·obtain⟨m,hm,_⟩:=hv.seen _ e;have:=aE hm;omega
 ·obtain⟨m,hm,hc,x,hx,hxl,_⟩:=hv.seen _ hne;refine⟨m,hm,?_,hc⟩;simp only[aH,List.any_eq_true,decide_eq_true_eq];exact⟨x,hx,WideShapes.bytes_inj hxl⟩
 ·obtain⟨m,hm,hk,hc⟩:=hh;simp only[aH,List.any_eq_true,decide_eq_true_eq]at hk;obtain⟨x,hx,rfl⟩:=hk;exact hv.top i m x hm hc hx (by omega)
theorem gV{b o:Nat}{c:Array Value}{t:TypeId}(h:aT w b c t)(hv:c[o]?=some v):w.setCell ⟨b,o,none⟩ v=w:=by
 have e:(w.setCell ⟨b,o,none⟩ v).heap=w.heap:=by
  apply Array.ext_getElem?;intro i;by_cases ei:i=b
  ·subst ei;have h1:(w.setCell ⟨i,o,none⟩ v).heap[i]?=some (.cells (c.setIfInBounds o v) t (0,0)):=h.set o v;have h2:w.heap[i]?=some (.cells c t (0,0)):=h;rw[h1,h2];congr 2;obtain⟨ho,hv'⟩:=Array.getElem?_eq_some_iff.1 hv;apply Array.ext_getElem?;intro j;by_cases ej:o=j
   ·subst ej;simp[ho,hv']
   ·simp[ej]
  ·rw[zaq _ _ _ _ ei]
 show {w with heap:=(w.setCell ⟨b,o,none⟩ v).heap}=w;rw[e]
theorem Fl:(prog.info? 144).map (·.size)=some 4:=by kernel_rfl
theorem Po(pb kb vb:Nat)(f:Lit->Option Value)(hb:aT w pb #[fy,gF,.map (some kb),.map (some vb)] 202)(hM:aK w prog 9 vb f)(key:ByteArray)(hk:key.size<=maxLen)(v:Nat)(hf:(f (.string key.data.toList)).getD (.int .i64 0)=.int .i64 v):
 Calls prog 74 #[ptr pb,.string key] w fun e w'=>e=.returned (.agg #[.int .i64 v,.bool false,.string ⟨#[]⟩,.nilIface])/\Below w.heap.size w w':=by
 have hpl:=hb.lt;have hvl:=hM.lt;have hne:=cU hb hM;have iR:aT (w.alloc (.cells #[.int .i64 0,.bool false,.string ⟨#[]⟩,.nilIface] 144)) pb _ _:=hb.of_eq (zar _ _ _ hpl);have mU:aK (w.alloc (.cells #[.int .i64 0,.bool false,.string ⟨#[]⟩,.nilIface] 144)) prog 9 vb f:=hM.of_eq (zar _ _ _ hvl);have hT:=aT.new w #[.int .i64 0,.bool false,.string ⟨#[]⟩,.nilIface] 144;have hBo:∀k,k<w.heap.size->(w.alloc (.cells #[.int .i64 0,.bool false,.string ⟨#[]⟩,.nilIface] 144)).heap[k]?=w.heap[k]? :=fun k hk=>zar _ _ _ hk;have hsz:(w.alloc (.cells #[.int .i64 0,.bool false,.string ⟨#[]⟩,.nilIface] 144)).heap.size=w.heap.size+1:=by simp
 have hos:(w.alloc (.cells #[.int .i64 0,.bool false,.string ⟨#[]⟩,.nilIface] 144)).os=w.os/\(w.alloc (.cells #[.int .i64 0,.bool false,.string ⟨#[]⟩,.nilIface] 144)).tape=w.tape/\(w.alloc (.cells #[.int .i64 0,.bool false,.string ⟨#[]⟩,.nilIface] 144)).output=w.output:=⟨rfl,rfl,rfl⟩
 unfold ptr;go_enter_defers func74,ntmps74;go_wp2_with fail
 generalize w.alloc (.cells #[.int .i64 0,.bool false,.string ⟨#[]⟩,.nilIface] 144)=wa at *;have c0:wa.cell? ⟨pb,0,none⟩=some (.int .i32 0):=iR.cell (o:=0) rfl;have f0:=iR.frozen 0;refine(lock_free Tryz.a9 ⟨pb,0,none⟩ _ c0 f0).mono ?_;rintro e w' ⟨rfl,rfl⟩;have kQ:=iR.set 0 (.int .i32 1);have xd:aK (wa.setCell ⟨pb,0,none⟩ (.int .i32 1)) prog 9 vb f:=mU.of_eq (zaq _ _ _ _ (fun e=>hne e.symm));have sP:aT (wa.setCell ⟨pb,0,none⟩ (.int .i32 1)) w.heap.size _ _:=hT.of_eq (zaq _ _ _ _ (by simp only;omega));generalize Pp:wa.setCell ⟨pb,0,none⟩ (.int .i32 1)=wb at *;have d3:wb.cell? ⟨pb,3,none⟩=some (.map (some vb)):=kQ.cell (o:=3) rfl;have t0:=sP.cell (o:=0) (v:=.int .i64 0) rfl;have t1:=sP.cell (o:=1) (v:=.bool false) rfl;have t2:=sP.cell (o:=2) (v:=.string ⟨#[]⟩) rfl;have t3:=sP.cell (o:=3) (v:=.nilIface) rfl;have g0:=sP.frozen 0;have g1:=sP.frozen 1;have g2:=sP.frozen 2;have g3:=sP.frozen 3;have hlk:(Instr.lookup 200 (.map (some vb)) (.string key) false).run prog wb.drew=.ok (.int .i64 v) wb.drew:=by have:=aK.look (w:=wb.drew) (e:=3) xd dI underlying200 (C9 _) (dZ hk);rw[hf]at this;exact this
 go_wp2_with fail
 have Pq:pb≠w.heap.size:=by omega
 have Lh:aT wb.drew w.heap.size _ _:=sP;have IB:∀x,(wb.setCell ⟨w.heap.size,0,none⟩ x).drew.cell? ⟨pb,3,none⟩=some (.map (some vb)):=fun x=>(fM (w:=wb) Pq).trans d3;have z0:wb.drew.setCell ⟨w.heap.size,0,none⟩ (.int .i64 0)=wb.drew:=gV Lh rfl;have z1:wb.drew.setCell ⟨w.heap.size,1,none⟩ (.bool false)=wb.drew:=gV Lh rfl;have z2:wb.drew.setCell ⟨w.heap.size,2,none⟩ (.string ⟨#[]⟩)=wb.drew:=gV Lh rfl;have z3:wb.drew.setCell ⟨w.heap.size,3,none⟩ .nilIface=wb.drew:=gV Lh rfl;go_region_held3 (fun W=>W.cell? ⟨pb,3,none⟩=some (.map (some vb))) (first|exact IB _|(simp[*];done)) (fail)
 all_goals
  go_wp2_with fail
  have BM:aT (wb.setCell ⟨w.heap.size,0,none⟩ (.int .i64 v)).drew pb _ _:=kQ.of_eq (zaq _ _ _ _ Pq)
  have Em:aT (wb.setCell ⟨w.heap.size,0,none⟩ (.int .i64 v)).drew w.heap.size #[.int .i64 v,.bool false,.string ⟨#[]⟩,.nilIface] 144:=by
   have this:aT (wb.setCell ⟨w.heap.size,0,none⟩ (.int .i64 v)) w.heap.size #[.int .i64 v,.bool false,.string ⟨#[]⟩,.nilIface] 144:=by simpa using sP.set 0 (.int .i64 v)
   exact this
  have Lb:aT ((wb.setCell ⟨w.heap.size,0,none⟩ (.int .i64 v)).drew.setCell ⟨pb,0,none⟩ fy) w.heap.size _ _:=Em.of_eq (zaq _ _ _ _ (fun e=>Pq e.symm))
  refine leaves_cons (f:=38) (args:=#[.pointer (some ⟨pb,0,none⟩)]) (by simp) (by simp[go_sem]) ?_
  refine(unlock_deferred Tryz.a9 ⟨pb,0,none⟩ .returning _ (BM.cell (o:=0) rfl) (BM.frozen 0)).mono ?_
  rintro e u' w'' ⟨rfl,rfl,rfl⟩
  refine⟨_,results_cell_row rfl _ _ w.heap.size _ _ (0,0) _ rfl Lb underlying144 rfl Fl,rfl,?_,?_,?_,?_,?_⟩
  ·rw[<-Pp];exact hos.1
  ·rw[<-Pp];exact hos.2.1
  ·rw[<-Pp];exact hos.2.2
  ·have:wb.heap.size=wa.heap.size:=by rw[<-Pp];simp[World.setCell]
   simp[World.setCell];omega
  ·intro k hk
   refine(eW iR rfl (v:=.int .i32 1) (p:=fun k=>k<w.heap.size) (fun k hk=>?_) k hk).trans (hBo k hk)
   rw[Pp]
   exact zaq _ _ _ _ (by simp only;omega)
def fQ(s:MS)(A:SA)(n:Int):Value×Bool:=match gN s n with
 |some _=>(ptr (A.R.pr (n-1).toNat),true)
 |none=>(.pointer none,false)
theorem nZ(h:aW w τ aD b s A)(n:Int)(hn: -9223372036854775808<=n)(hn':n<=9223372036854775807):
 Calls prog 40 #[ptr b,.int .i64 n] w fun e w'=>e=.returned (.tuple #[(fQ s A n).1,.bool (fQ s A n).2])/\u6 w w':=by
 have c2:w.cell? ⟨b,2,none⟩=some (.int .i32 0):=h.blk.cell (o:=2) rfl;have c7:w.cell? ⟨b,7,none⟩=some (.map (some A.R.rm)):=h.blk.cell (o:=7) rfl;have f2:=h.blk.frozen 2;have hM:∀v,aK (w.setCell ⟨b,2,none⟩ v) prog 3 A.R.rm (dc s.rs A.R):=fun v=>h.reads.qR.of_eq (zaq _ _ _ _ (fun e=>by have:=h.reads.gS;rw[e,h.tag]at this;simp at this));have eF:=gm h.blk (o:=2) rfl (.int .i32 1);unfold fy at eF;obtain⟨fv,aj,hval⟩:∃fv,dc s.rs A.R (.int .i64 n)=fv/\(fQ s A n).1=fv.getD (.pointer none)/\(fQ s A n).2=fv.isSome:=by refine⟨_,rfl,?_⟩;unfold dc fQ gN;cases hf:fO s.rs n<;>simp only[hf]<;>exact⟨rfl,rfl⟩
 rw[hval.1,hval.2];unfold ptr;go_enter_defers func40,ntmps40;go_wp2_with (first|(go_at_call 37;refine(lock_free Tryz.a9 ⟨b,2,none⟩ _ c2 f2).mono ?_;rintro e w' ⟨rfl,rfl⟩)|(at_lookup;refine bZ _ rfl _ _ 103 rfl 3 106 eD underlying103 (Fj _) A.R.rm (dc s.rs A.R) rfl (hM _) _ (.int .i64 n) rfl (keyOf_int hn hn') fv aj ?_))
 refine leaves_cons (f:=38) (args:=#[.pointer (some ⟨b,2,none⟩)]) (by simp) (by simp[go_sem]) ?_;refine(unlock_deferred Tryz.a9 ⟨b,2,none⟩ .returning _ ?_ ?_).mono ?_
 ·exact World.cell?_setCell_same w ⟨b,2,none⟩ (.int .i32 1) c2
 ·simp[f2]
 rintro e u' w'' ⟨rfl,rfl,rfl⟩;exact⟨_,results_tmp2 rfl _ _ _,rfl,eF⟩
end
end
section
open Go.Maps (Keyed)
section
variable {w:World}
theorem xM:(prog.info? 62).map (·.size)=some 3:=by kernel_rfl
theorem pQ(wb rm:Nat)(c:Array Value)(f:Lit->Option Value)(hb:aT w wb c 105)(e2:c[2]?=some fy)(e7:c[7]?=some (.map (some rm)))(hM:aK w prog 3 rm f)(n:Int)(h1: -9223372036854775808<=n)(h2:n<=9223372036854775807):
 Calls prog 43 #[ptr wb,.int .i64 n] w fun e w'=>e=.returned (.bool (f (.int .i64 n)).isSome)/\aK w' prog 3 rm (del f (.int .i64 n))/\rz w w' rm:=by
 have c2:w.cell? ⟨wb,2,none⟩=some (.int .i32 0):=hb.cell e2;have c5:w.cell? ⟨wb,7,none⟩=some (.map (some rm)):=hb.cell e7;have f2:=hb.frozen 2;have hne:=cU hb hM;have mU:∀v,aK (w.setCell ⟨wb,2,none⟩ v) prog 3 rm f:=fun v=>hM.of_eq (zaq _ _ _ _ (fun e=>hne e.symm));have XN:(c.setIfInBounds 2 (.int .i32 1))[2]?=some (.int .i32 1):=by have:=(Array.getElem?_eq_some_iff.1 e2).1;simp[this]
 unfold ptr;go_enter_defers func43,ntmps43;go_wp2_with (first|(go_at_call 37;refine(lock_free Tryz.a9 ⟨wb,2,none⟩ _ c2 f2).mono ?_;rintro e w' ⟨rfl,rfl⟩)|(at_lookup;refine bZ _ rfl _ _ 103 rfl 3 106 eD underlying103 (Fj _) rm f rfl (mU _) _ (.int .i64 n) rfl (keyOf_int h1 h2) _ rfl ?_)|(at_delete;refine pI _ rfl _ _ 103 3 rfl 106 eD underlying103 rm f rfl (mU _) _ (.int .i64 n) rfl (keyOf_int h1 h2) ?_;intro w1 xd hT))
 have hB:=rz.fR hT;have iR:aT w1 wb _ 105:=(hb.set 2 (.int .i32 1)).of_eq (hB.block wb hne);refine leaves_cons (f:=38) (args:=#[.pointer (some ⟨wb,2,none⟩)]) (by simp) (by simp[go_sem]) ?_;refine(unlock_deferred Tryz.a9 ⟨wb,2,none⟩ .returning _ (iR.cell (o:=2) XN) (iR.frozen 2)).mono ?_;rintro e u' w'' ⟨rfl,rfl,rfl⟩;exact⟨_,results_tmp rfl _ _ _,rfl,xd.of_eq (zaq _ _ _ _ (fun e=>hne e.symm)),rz.locked hb e2 _ hB hne⟩
end
end
section
open Go.Maps (Keyed)
def qF(qb:Nat->Nat)(L:List ByteArray):Lit->Option Value
 |.string l=>if IE L l<L.length then some (ptr (qb (IE L l)))else none
 |_=>none
structure iJ(w:World)(τ:Nat->Tag)(aD i P:Nat)(pb:Nat->Nat)(pr qm:Nat)(qb:Nat->Nat)(no:Bool)(ks:Value)(L:List ByteArray)(B0:Nat):Prop where
 blk:aT w pr #[fy,gF,.bool no,ks,.map (some qm)] 137
 tag:τ pr=(aD,11,i)
 map:aK w prog 9 qm (qF qb L)
 gU:τ qm=(aD,12,i)
 q:∀(j:Nat) (x:ByteArray),L[j]?=some x->aT w (qb j) #[ptr (pb (partOf P x).toNat),.bool false,.int .i64 0,.bool false,.string ⟨#[]⟩,.nilIface] 146
 lA:∀(j:Nat) (x:ByteArray),L[j]?=some x->τ (qb j)=(aD,13,i*8+j)
 ky:w.ownsRow 0 9 1 ks L.length (L.map Value.string)
 dF:∀k,ks.ownBlock=some k->τ k=(aD,14,i)
 lo:B0<=pr/\B0<=qm
 loQ:∀(j:Nat) (x:ByteArray),L[j]?=some x->B0<=qb j
 Nf:∀k,ks.ownBlock=some k->B0<=k
section
variable {w:World}{τ:Nat->Tag}{aD i P:Nat}{pb:Nat->Nat}{pr qm:Nat}{qb:Nat->Nat}{no:Bool}{ks:Value}{L:List ByteArray}{B0:Nat}
theorem iJ.frame(h:iJ w τ aD i P pb pr qm qb no ks L B0)(hB:∀k,B0<=k->k<w.heap.size->w'.heap[k]?=w.heap[k]?):iJ w' τ aD i P pb pr qm qb no ks L B0:=
 ⟨h.blk.of_eq (hB _ h.lo.1 h.blk.lt),h.tag,h.map.of_eq (hB _ h.lo.2 h.map.lt),h.gU,fun j x hx=>(h.q j x hx).of_eq (hB _ (h.loQ j x hx) (h.q j x hx).lt),h.lA,ak h.ky (fun k hk=>hB k (h.Nf k hk) (aR h.ky k hk).2),h.dF,h.lo,h.loQ,h.Nf⟩
theorem iJ.below(h:iJ w τ aD i P pb pr qm qb no ks L B0)(hB:Below w.heap.size w w'):iJ w' τ aD i P pb pr qm qb no ks L B0:=h.frame (fun k _ hk=>hB.block k hk)
theorem Wp(qb:Nat->Nat):qF qb []=fun _=>none:=by funext kl;cases kl<;>simp[qF]
theorem iJ.made(w:World)(τ:Nat->Tag)(aD i P:Nat)(pb:Nat->Nat)(no:Bool):
 iJ ((w.alloc (.map #[] 0)).alloc (.cells #[fy,gF,.bool no,.slice none 0 0,.map (some w.heap.size)] 137))
  (fun k=>if k=w.heap.size+1 then(aD,11,i)else if k=w.heap.size then(aD,12,i)else τ k) aD i P pb (w.heap.size+1) w.heap.size (fun _=>0) no (.slice none 0 0) [] w.heap.size:=by
 refine⟨?_,by simp,?_,by simp,fun j x hx=>by simp at hx,fun j x hx=>by simp at hx,World.ownsRow_nil _ _ _ _,fun k hk=>(by cases hk),⟨by omega,by omega⟩,fun j x hx=>by simp at hx,fun k hk=>(by cases hk)⟩
 ·have:=aT.new (w.alloc (.map #[] 0)) #[fy,gF,.bool no,.slice none 0 0,.map (some w.heap.size)] 137
  simpa using this
 ·rw[Wp]
  exact(aK.made w prog 9).of_eq (zar _ _ _ (by simp))
theorem Fq:IE (L++ [x]) l=if IE L l<L.length then IE L l else if x.data.toList=l then L.length else L.length+1:=by
 unfold IE;rw[List.findIdx_append];split
 ·rfl
 ·by_cases e:x.data.toList=l<;>simp[e,List.findIdx_cons]<;>omega
theorem Da:IE L l<L.length↔∃x∈L,x.data.toList=l:=by unfold IE;rw[List.findIdx_lt_length];simp
theorem SK(hx:x ∉ L):qF (fun j=>if j=L.length then new else qb j) (L++ [x])=upd (qF qb L) (.string x.data.toList) (ptr new):=by
 funext kl;cases kl with
 |string l=>
  by_cases e:x.data.toList=l
  ·subst e;have hn:¬IE L x.data.toList<L.length:=fun h=>by obtain⟨y,hy,he⟩:=Da.1 h;exact hx (WideShapes.bytes_inj he▸hy)
   rw[upd_same (by simp[WideAt.IsKeyLit])];simp only[qF,Fq,if_neg hn,if_true,List.length_append,List.length_singleton];simp
  ·rw[fN (by simpa using fun e'=>e e'.symm)];simp only[qF,Fq,List.length_append,List.length_singleton];by_cases hn:IE L l<L.length
   ·have:IE L l≠L.length:=by omega
    simp only[if_pos hn,if_neg this];rw[if_pos (by omega)]
   ·simp only[if_neg hn,if_neg e];rw[if_neg (by omega)]
 |_=>simp[qF,upd,Lit.sameKey]
theorem iJ.push(h:iJ w τ aD i P pb pr qm qb no ks L B0)(hx:x ∉ L)(hnew:w.heap.size<=new)(uQ:B0<=w.heap.size)
 (hold:∀k,k<w.heap.size->k≠qm->k≠pr->ks.ownBlock≠some k->w'.heap[k]?=w.heap[k]?) (hb:aT w' new #[ptr (pb (partOf P x).toNat),.bool false,.int .i64 0,.bool false,.string ⟨#[]⟩,.nilIface] 146)
 (Ri:aT w' pr #[fy,gF,.bool no,ks',.map (some qm)] 137)
 (V8:w'.ownsRow 0 9 1 ks' (L.length+1) (L.map Value.string++ [.string x])) (hkb:∀k,ks'.ownBlock=some k->ks.ownBlock=some k\/(w.heap.size<=k/\k≠new))
 (hM:aK w' prog 9 qm (upd (qF qb L) (.string x.data.toList) (ptr new))):
 iJ w' (fun k=>if k=new then(aD,13,i*8+L.length)else if ks'.ownBlock=some k then(aD,14,i)else τ k) aD i P pb pr qm (fun j=>if j=L.length then new else qb j) no ks' (L++ [x]) B0:=by
 have hin:∀{j:Nat} {y:ByteArray},(L++ [x])[j]?=some y->(j<L.length/\L[j]?=some y)\/(j=L.length/\y=x):=by
  intro j y hj;by_cases e:j<L.length
  ·rw[List.getElem?_append_left e]at hj;exact Or.inl ⟨e,hj⟩
  ·rw[List.getElem?_append_right (by omega)]at hj;have hi':=aE hj;simp at hi';have:j=L.length:=by omega
   subst this;simp at hj;exact Or.inr ⟨rfl,hj.symm⟩
 have hpq:pr≠qm:=cU h.blk h.map;have hlt:∀{k:Nat},k<w.heap.size->k≠new:=fun hk=>by omega
 have kJ:∀{k:Nat} {g:Nat×Nat},k<w.heap.size->τ k=(aD,g)->(g.1≠14)->(if k=new then(aD,13,i*8+L.length)else if ks'.ownBlock=some k then(aD,14,i)else τ k)=(aD,g):=by
  intro k g hk ht hg;rw[if_neg (hlt hk)];by_cases e:ks'.ownBlock=some k
  ·rcases hkb k e with e1|e1
   ·have:=h.dF k e1;rw[ht]at this;simp at this;exact absurd (by rw[this]) hg
   ·omega
  ·rw[if_neg e,ht]
 have hkn:∀{k:Nat} {g:Nat×Nat},τ k=(aD,g)->g.1≠14->ks.ownBlock≠some k:=fun ht hg e=>by have:=h.dF _ e;rw[ht]at this;simp at this;exact hg (by rw[this])
 refine⟨Ri,kJ h.blk.lt h.tag (by simp),?_,kJ h.map.lt h.gU (by simp),fun j y hj=>?_,fun j y hj=>?_,?_,fun k hk=>?_,h.lo,fun j y hj=>?_,fun k hk=>?_⟩
 ·rw[SK hx];exact hM
 ·rcases hin hj with⟨hjl,e⟩|⟨rfl,rfl⟩
  ·have:j≠L.length:=by omega
   simp only[this,if_false];have ht:=h.lA j y e;exact(h.q j y e).of_eq (hold _ (h.q j y e).lt (cU (h.q j y e) h.map) (fun e'=>by rw[e',h.tag]at ht;simp at ht) (hkn ht (by simp)))
  ·simpa using hb
 ·rcases hin hj with⟨hjl,e⟩|⟨rfl,rfl⟩
  ·have:j≠L.length:=by omega
   simp only[this,if_false];exact kJ (h.q j y e).lt (h.lA j y e) (by simp)
  ·simp
 ·simpa using V8
 ·show (if k=new then _ else _)=_;have:k≠new:=by
   rcases hkb k hk with e|e
   ·exact hlt (aR h.ky k e).2
   ·exact e.2
  rw[if_neg this,if_pos hk]
 ·rcases hin hj with⟨hjl,e⟩|⟨rfl,rfl⟩
  ·have:j≠L.length:=by omega
   simp only[this,if_false];exact h.loQ j y e
  ·simp;omega
 ·rcases hkb k hk with e|e
  ·exact h.Nf k e
  ·omega
theorem SM:∀kl,qF qb L kl≠none->kl∈L.map (fun x=>Lit.string x.data.toList):=by
 intro kl hk;cases kl with
 |string l=>
  simp only[qF]at hk;split at hk
  ·rename_i e;obtain⟨y,hy,he⟩:=Da.1 e;exact zax.2 ⟨y,hy,by rw[he]⟩
  ·exact absurd rfl hk
 |_=>exact absurd rfl hk
theorem L3(h:iJ w τ aD i P pb pr qm qb no ks L B0){w3:World}(hx:kk ∉ L)(uQ:B0<=w.heap.size)
 (hO:w2.ownsRow 0 9 1 v2 (L.length+1) (L.map Value.string++ [.string kk])) (hG:(w.alloc o).grownBy w2 ks.ownBlock) (hA:v2.ownBlock=ks.ownBlock\/v2.ownBlock=some (w.alloc o).heap.size)
 (hM:aK w3 prog 9 qm (upd (qF qb L) (.string kk.data.toList) (ptr w2.heap.size)))
 (hT:rz ((w2.setCell ⟨pr,3,none⟩ v2).alloc (.cells #[ptr (pb (partOf P kk).toNat),.bool false,.int .i64 0,.bool false,.string ⟨#[]⟩,.nilIface] 146)) w3 qm):
 ∃τ' Pz ks',iJ w3 τ' aD i P pb pr qm Pz no ks' (L++ [kk]) B0/\Below B0 w w3/\∀k,k<w.heap.size->τ' k=τ k:=by
 have CY:=h.blk.lt;have Lu:=h.map.lt;have hlo:=h.lo;have hsz:w.heap.size<w2.heap.size:=by have:=hG.size;simp at this;omega
 have V4:w3.heap.size=w2.heap.size+1:=by have:=hT.size;simpa[World.setCell]using this
 have Wq:pr≠qm:=cU h.blk h.map;have hkp:ks.ownBlock≠some pr:=fun e=>by have:=h.dF _ e;rw[h.tag]at this;simp at this
 have XI:ks.ownBlock≠some qm:=fun e=>by have:=h.dF _ e;rw[h.gU]at this;simp at this
 have hnb:∀k,v2.ownBlock=some k->ks.ownBlock=some k\/w.heap.size<k:=fun k hk=>by
  rcases hA with e|e
  ·exact Or.inl (by rw[<-e];exact hk)
  ·rw[hk]at e;have:=Option.some.inj e;simp at this;exact Or.inr (by omega)
 have kQ:∀k,k<w2.heap.size->k≠qm->k≠pr->w3.heap[k]?=w2.heap[k]? :=fun k hk h1 h2=>
  (hT.block k h1).trans ((zar _ _ _ (by simpa[World.setCell]using hk)).trans (zaq _ _ _ _ h2))
 have afh:aT w2 pr #[fy,gF,.bool no,ks,.map (some qm)] 137:=h.blk.of_eq ((hG.block pr (by simp;omega) (fun e=>hkp e.symm)).trans (zar _ _ _ CY));refine⟨_,_,v2,h.push (ks':=v2) (new:=w2.heap.size) hx (by omega) uQ (fun k hk h1 h2 h3=>?_) ?_ ?_ ?_ (fun k hk=>?_) hM,⟨hT.os.trans hG.os,hT.tape.trans hG.tape,hT.output.trans hG.output,by omega,fun k hk=>?_⟩,fun k hk=>?_⟩
 ·exact(kQ k (by omega) h1 h2).trans ((hG.block k (by simp;omega) (fun e=>h3 e.symm)).trans (zar _ _ _ hk))
 ·have:=(aT.new (w2.setCell ⟨pr,3,none⟩ v2) #[ptr (pb (partOf P kk).toNat),.bool false,.int .i64 0,.bool false,.string ⟨#[]⟩,.nilIface] 146).of_eq (w':=w3) (hT.block _ (by simp[World.setCell];omega));simpa[World.setCell]using this
 ·have h1:=(afh.set 3 v2).of_eq (w':=(w2.setCell ⟨pr,3,none⟩ v2).alloc (.cells #[ptr (pb (partOf P kk).toNat),.bool false,.int .i64 0,.bool false,.string ⟨#[]⟩,.nilIface] 146)) (zar _ _ _ (by simp[World.setCell];omega));have:=h1.of_eq (hT.block pr Wq);simpa using this
 ·refine ak hO (fun k hk=>kQ k (aR hO k hk).2 (fun e=>?_) (fun e=>?_))
  ·rcases hnb k hk with e1|e1
   ·exact XI (by rw[e1,e])
   ·omega
  ·rcases hnb k hk with e1|e1
   ·exact hkp (by rw[e1,e])
   ·omega
 ·rcases hnb k hk with e1|e1
  ·exact Or.inl e1
  ·exact Or.inr ⟨by omega,by have:=(aR hO k hk).2;omega⟩
 ·exact(kQ k (by omega) (by omega) (by omega)).trans ((hG.block k (by simp;omega) (fun e=>by have:=h.Nf k e.symm;omega)).trans (zar _ _ _ (by omega)))
 ·show (if k=w2.heap.size then _ else _)=_;rw[if_neg (by omega)];by_cases e:v2.ownBlock=some k
  ·rw[if_pos e];rcases hnb k e with e1|e1
   ·rw[h.dF k e1]
   ·omega
  ·rw[if_neg e]
theorem PD(h:iJ w τ aD i P pb pr qm qb no ks L B0)(kk:ByteArray)(hk8:kk.size<=8)(hx:kk ∉ L)(hl:L.length<8)(uQ:B0<=w.heap.size):
 Calls prog 73 #[ptr pr,.string kk,ptr (pb (partOf P kk).toNat)] w fun e w'=>e=.returned (.tuple #[])/\∃τ' Pz ks',iJ w' τ' aD i P pb pr qm Pz no ks' (L++ [kk]) B0/\Below B0 w w'/\∀k,k<w.heap.size->τ' k=τ k:=by
 have hL8:(L.map (fun x=>Lit.string x.data.toList)).length<maxLen:=by simp;unfold maxLen;omega
 have hks:=dZ (s:=kk) (by unfold maxLen;omega);obtain⟨si,hsi,Zq,Zr,Zs⟩:=info_parts yw;have cc:=u9 (w:=w) kk (by omega);unfold ptr;go_enter func73,ntmps73;go_wp2_with fail
 refine cc.mono ?_;rintro e w1 ⟨rfl,iM⟩;clear cc;have h1:=h.below iM;have CY:=h1.blk.lt;have Lu:=h1.map.lt;have Ft:=iM.size;have c3:w1.cell? ⟨pr,3,none⟩=some ks:=h1.blk.cell (o:=3) rfl;have hkp:ks.ownBlock≠some pr:=fun e=>by have:=h.dF _ e;rw[h.tag]at this;simp at this
 have XI:ks.ownBlock≠some qm:=fun e=>by have:=h.dF _ e;rw[h.gU]at this;simp at this
 have Wq:pr≠qm:=cU h1.blk h1.map;have HD:Hid (∀(w2 w3:World) (o:Obj) (v2:Value),w2.ownsRow 0 9 1 v2 (L.length+1) (L.map Value.string++ [.string kk])->(w1.alloc o).grownBy w2 ks.ownBlock->(v2.ownBlock=ks.ownBlock\/v2.ownBlock=some (w1.alloc o).heap.size)->
  aK w3 prog 9 qm (upd (qF qb L) (.string kk.data.toList) (ptr w2.heap.size))->rz ((w2.setCell ⟨pr,3,none⟩ v2).alloc (.cells #[ptr (pb (partOf P kk).toNat),.bool false,.int .i64 0,.bool false,.string ⟨#[]⟩,.nilIface] 146)) w3 qm->
  ∃τ' Pz ks',iJ w3 τ' aD i P pb pr qm Pz no ks' (L++ [kk]) B0/\Below B0 w w3/\∀k,k<w.heap.size->τ' k=τ k):=fun w2 w3 o v2 a1 a2 a3 a4 a5=>by obtain⟨τ',Pz,ks',r1,r2,r3⟩:=L3 h1 hx (Nat.le_trans uQ Ft) a1 a2 a3 a4 a5;exact⟨τ',Pz,ks',r1,(iM.mono uQ).trans r2,fun k hk=>r3 k (by omega)⟩
 have HB2:Hid (∀(w2:World) (o:Obj),(w1.alloc o).grownBy w2 ks.ownBlock->aT w2 pr #[fy,gF,.bool no,ks,.map (some qm)] 137/\∀(v2:Value) (o':Obj),aK ((w2.setCell ⟨pr,3,none⟩ v2).alloc o') prog 9 qm (qF qb L)):=fun w2 o hG=>by
  have hsz:w1.heap.size<w2.heap.size:=by have:=hG.size;simp at this;omega
  exact⟨h1.blk.of_eq ((hG.block pr (by simp;omega) (fun e=>hkp e.symm)).trans (zar _ _ _ CY)),fun v2 o'=>h1.map.of_eq ((zar _ _ _ (by simp[World.setCell];omega)).trans ((zaq _ _ _ _ (fun e=>Wq e.symm)).trans ((hG.block qm (by simp;omega) (fun e=>XI e.symm)).trans (zar _ _ _ Lu))))⟩
 obtain⟨av,jS,hkv⟩:=gH h1.ky;have V8:=h1.ky;have hxs:∃xs,L.map Value.string=xs:=⟨_,rfl⟩
 obtain⟨xs,hxs⟩:=hxs;rw[hxs]at V8 HD;generalize L.length=nL at *;unfold ptr at HD;clear h1 h hx;subst hkv;go_wp2_with (first
  |(at_builtin;refine wpList_append_own_at _ rfl (.tmp 13) (.tmp 15) 38 rfl 0 9 si _ 1 16 underlying38 hsi Zq Zr Zs rfl (by decide) (.slice av nL jS) nL xs rfl (V8.alloc _) ⟨_,0,none⟩ 1 1 [.string kk] rfl rfl (cell_one_new _ _ _) (by simp[Value.oneCell']) (by unfold maxLen;omega) (by omega) (zaw _) ?_;intro v2 w2 AA qO Oc hA2;obtain⟨Rp,xd⟩:=HB2.out w2 _ qO;have k3:=Rp.cell (o:=3) (v:=.slice av nL jS) rfl;have g3:=Rp.frozen 3;have k4:=Rp.cell (o:=4) (v:=.map (some qm)) rfl;obtain⟨g2,cap2,yR,-⟩:=dJ AA (by omega);rw[yR])
  |(at_mapUpdate;refine pG _ rfl _ _ _ 135 rfl 9 139 dI underlying135 qm (qF qb L) rfl (by exact xd _ _) _ SM hL8 _ _ (.string kk.data.toList) rfl rfl hks ?_;intro w3 G0 Em))
 have lU:=rz.fR Em;go_end0
 obtain⟨τ',Pz,ks',r1,r2,r3⟩:=HD.out w2 w3 _ v2 AA qO hA2 (by simpa[World.setCell,Act.eval]using G0) (by rw[yR];exact lU);exact⟨rfl,τ',⟨Pz,ks',r1⟩,r2,r3⟩
end
end
section
open Go.Maps (Keyed)
theorem aK.size{P:Program}{k:TypeId}{w:World}{b:Nat}{f:Lit->Option Value}(h:aK w P k b f)(K:Keyed P k){L:List Lit}(hnd:L.Pairwise (fun a b=>a≠b))(hL:∀kl,f kl≠none↔kl∈L):
 ∃n D,w.ownsMap P k aL b n D/\Maps.size D=L.length:=by
 obtain⟨n,D,h,hs⟩:=h;obtain⟨es,hD,hp,hks⟩:=h.entries K;refine⟨n,D,h,?_⟩;have hhas:∀kl,kl∈es.map Prod.fst->f kl≠none:=fun kl tu e=>by
  obtain⟨p,rR,rfl⟩:=zax.1 tu;have h2:=hs.2 p.1;rw[e]at h2;have:Maps.has D p.1=true:=by rw[hD,Maps.has_eq,List.any_eq_true];exact⟨p,rR,mP (hks p rR)⟩
  rw[this]at h2;cases h2
 have h1:es.length<=L.length:=by rw[<-List.length_map (f:=Prod.fst)];exact jG _ _ (List.pairwise_map.2 hp) (fun kl tu=>(hL kl).1 (hhas kl tu))
 have h2:L.length<=es.length:=by
  have e0:es.length=(es.map Prod.fst).length:=by simp
  rw[e0];refine jG _ _ hnd (fun kl tu=>?_);have h3:=hs.2 kl;have h4:=(hL kl).2 tu;have:Maps.has D kl=true:=by
   rw[h3];cases hf:f kl
   ·exact absurd hf h4
   ·rfl
  rw[hD,Maps.has_eq,List.any_eq_true]at this;obtain⟨p,rR,he⟩:=this;by_cases e:p.1=kl
  ·exact zax.2 ⟨p,rR,e⟩
  ·rw[Maps.sameKey_ne e]at he;cases he
 rw[hD,Maps.size_eq];omega
def Db(rs:List MR):List Nat:=(List.range rs.length).filter (fun i=>!(rs.getD i (gq [])).fin)
def lB(rs:List MR):List Lit:=(Db rs).map (fun i:Nat=>Lit.int .i64 ((i:Int)+1))
theorem II(rs:List MR):(List.range rs.length).map (fun i=>rs.getD i (gq []))=rs:=by
 apply List.ext_getElem?;intro i;rw[List.getElem?_map];by_cases h:i<rs.length
 ·rw[List.getElem?_range h,zat h];simp[List.getD_eq_getElem?_getD,h]
 ·simp[h]
theorem oI(rs:List MR):(lB rs).length=cj rs:=by
 unfold lB Db cj;rw[List.length_map,<-List.countP_eq_length_filter];conv=>rhs;rw[<-II rs,List.countP_map]
 rfl
theorem tI(rs:List MR):(lB rs).Pairwise (fun a b=>a≠b):=by unfold lB;rw[List.pairwise_map];refine(List.Pairwise.filter _ (List.nodup_range (n:=rs.length))).imp (fun{a b} h e=>h ?_);injection e with _ e;omega
theorem zf{rs:List MR}{B:SB}(kl:Lit):dc rs B kl≠none↔kl∈lB rs:=by
 constructor
 ·intro h;cases kl with
  |int k n=>
   cases k<;>try exact absurd rfl h
   simp only[dc]at h;cases hf:fO rs n with
   |none=>rw[hf]at h;exact absurd rfl h
   |some r=>
    unfold fO at hf;split at hf
    ·cases hf
    ·rename_i hb;have hlt:(n-1).toNat<rs.length:=by omega
     rw[zat hlt]at hf;simp only at hf;split at hf
     ·cases hf
     ·rename_i jr;refine zax.2 ⟨(n-1).toNat,?_,by congr 1;omega⟩;unfold Db;rw[List.mem_filter];refine⟨List.mem_range.2 hlt,?_⟩;rw[List.getD_eq_getElem?_getD,zat hlt];simpa only[Option.getD_some,Bool.not_eq_true',Bool.not_eq_true]using jr
  |_=>exact absurd rfl h
 ·intro h;obtain⟨i,hi,rfl⟩:=zax.1 h;unfold Db at hi;rw[List.mem_filter]at hi;obtain⟨h1,h2⟩:=hi;have hlt:=List.mem_range.1 h1;simp[List.getD_eq_getElem?_getD,hlt]at h2;have:fO rs ((i:Int)+1)=some rs[i]:=by unfold fO;rw[if_neg (by omega),show ((i:Int)+1-1).toNat=i from by omega,zat hlt];simp[h2]
  simp[dc,this]
section
variable {w:World}{τ:Nat->Tag}{aD i P:Nat}{pb:Nat->Nat}{L:List ByteArray}
theorem Fu(b:Nat)(mode:Int)(cm:w.cell? ⟨b,0,none⟩=some (.int .i64 mode))(cD:Value)(cs:w.cell? ⟨b,1,none⟩=some cD)(Ri:w.ownsRow 0 130 1 cD P ((List.range P).map (fun q=>ptr (pb q))))(Su:1<=P)(G1:P<=4)(gb go cap:Nat)(h1:1<=L.length)(h8:L.length<=8)(hg:∀x∈L,bK x=true)(hnd:L.Nodup)
 (hcell:∀(k:Nat) (x:ByteArray),L[k]?=some x->w.cell? ⟨gb,go+k,none⟩=some (.string x)):
 Calls prog 39 #[ptr b,.slice (some ⟨gb,go,none⟩) L.length cap] w fun e w'=>∃τ' pr qm qb ks,e=.returned (ptr pr)/\iJ w' τ' aD i P pb pr qm qb (decide (mode=2)&& decide (1<L.length)) ks L w.heap.size/\Below w.heap.size w w'/\∀k,k<w.heap.size->τ' k=τ k:=by
 have vP:=zav w _ cs;simp only at vP;obtain⟨pg,pc,hpv,_,hpc,yZ,_⟩:=dJ Ri (by omega);subst hpv;have Pa:pg<w.heap.size:=(aR Ri pg rfl).2;have hpq:∀q,q<P->w.cell? ⟨pg,q,none⟩=some (.pointer (some ⟨pb q,0,none⟩)):=fun q hq=>by rw[yZ q (by omega),List.getElem?_map,List.getElem?_range hq];rfl
 have GU:=@run_makeMap prog;clear yZ;have cno:=tJ (w:=w) mode (some ⟨gb,go,none⟩) L.length cap h8;generalize (decide (mode=2)&& decide (1<L.length))=nO at *;unfold ptr;go_enter func39,ntmps39;go_wp2_with (go_at_call 72;refine cno.mono ?_;rintro e w' ⟨rfl,hw⟩;obtain rfl:=hw.symm)
 go_loopw [19] (fun u wr=>∃(k:Nat) (τ':Nat->Tag) (qb:Nat->Nat) (ks:Value),k<=L.length/\u=.int .i64 k/\iJ wr τ' aD i P pb (w.heap.size+1) w.heap.size qb nO ks (L.take k) w.heap.size/\Below w.heap.size w wr/\Hid (∀k,k<w.heap.size->τ' k=τ k)) (fun u _=>L.length-(intOf u).toNat)
 case atStart=>
  refine⟨0,_,_,_,zaw _,rfl,iJ.made w τ aD i P pb nO,?_,fun k hk=>?_⟩
  ·exact((Below.refl _ _).alloc (zas _) _).alloc (by simp) _
  ·have e1:k≠w.heap.size+1:=by omega
   have e2:k≠w.heap.size:=by omega
   simp[e1,e2]
 case round=>
  obtain⟨k,τ1,qb1,ks1,hk,rfl,hW,hB,HT⟩:=hrel;by_cases hlt:k<L.length
  ·have hx:L[k]?=some L[k]:=zat hlt;have c1:=hcell k _ hx;have hgb:gb<w.heap.size:=zav w _ c1;have V3:=(hB.cell (p:=⟨gb,go+k,none⟩) hgb).trans c1;have AL:=dG (hg _ (List.getElem_mem hlt));have Rb:Hid (L.take (k+1)=L.take k++ [L[k]]):=List.take_succ_eq_append_getElem hlt;have hnew:L[k] ∉ L.take k:=fun e=>by
    have h2:(L.take k++L.drop k).Nodup:=by rw[List.take_append_drop];exact hnd
    rw[List.nodup_append]at h2;have h3:L[k]∈L.drop k:=by rw[List.drop_eq_getElem_cons hlt];exact List.mem_cons_self ..
    exact h2.2.2 _ e _ h3 rfl
   generalize L[k]=kk at *;have hbd:=eM P kk (by omega);obtain⟨q,hq⟩:∃q:Nat,(partOf P kk).toNat=q:=⟨_,rfl⟩
   have Kj:partOf P kk=q:=by omega
   have SE:=sw (w:=wr.drew) b P (some ⟨pg,0,none⟩) pc kk (by omega) (by omega) G1 ((hB.cell (p:=⟨b,1,none⟩) vP).trans cs);have hqP:q<P:=by omega
   have Pb:=hpq q hqP;have CA:∀w2:World,Below wr.drew.heap.size wr.drew w2->w2.cell? ⟨b,1,none⟩=some (.slice (some ⟨pg,0,none⟩) P pc)/\w2.cell? ⟨pg,q,none⟩=some (.pointer (some ⟨pb q,0,none⟩))/\
    Calls prog 73 #[ptr (w.heap.size+1),.string kk,ptr (pb q)] w2 (fun e w'=>e=.returned (.tuple #[])/\∃τ' Pz ks',iJ w' τ' aD i P pb (w.heap.size+1) w.heap.size Pz nO ks' (L.take (k+1)) w.heap.size/\Below w.heap.size w w'/\(∀k,k<w.heap.size->τ' k=τ k)/\w'.cell? ⟨b,1,none⟩=some (.slice (some ⟨pg,0,none⟩) P pc)/\w'.cell? ⟨pg,q,none⟩=some (.pointer (some ⟨pb q,0,none⟩))):=fun w2 dP=>by have hBr:Below wr.heap.size wr w2:=(Below.refl wr.heap.size wr).drew.trans dP;have oO:Below w.heap.size w w2:=hB.trans (hBr.mono hB.size);refine⟨(oO.cell (p:=⟨b,1,none⟩) vP).trans cs,(oO.cell (p:=⟨pg,q,none⟩) Pa).trans Pb,?_⟩;have ca:=PD (w:=w2) (hW.below hBr) kk (by omega) hnew (by simp;omega) oO.size;rw[hq,<-Rb.out]at ca;refine ca.mono ?_;rintro e w3 ⟨rfl,τ2,qb2,ks2,r1,r2,r3⟩;have Wr:Below w.heap.size w w3:=oO.trans r2;exact⟨rfl,τ2,qb2,ks2,r1,Wr,fun k hk=>(r3 k (by have:=oO.size;omega)).trans (HT.out k hk),(Wr.cell (p:=⟨b,1,none⟩) vP).trans cs,(Wr.cell (p:=⟨pg,q,none⟩) Pa).trans Pb⟩
   have CA':=(show Hid _ from CA)
   have s1:wr.cell? ⟨b,1,none⟩=some (.slice (some ⟨pg,0,none⟩) P pc):=(hB.cell (p:=⟨b,1,none⟩) vP).trans cs;have p1:wr.cell? ⟨pg,q,none⟩=some (.pointer (some ⟨pb q,0,none⟩)):=(hB.cell (p:=⟨pg,q,none⟩) Pa).trans Pb;unfold ptr at SE;rw[Kj]at SE;clear CA hcell c1 hpq hx hnew hq Kj hbd;go_wp2_with fail
   go_region_held3 (fun W=>W.cell? ⟨b,1,none⟩=some (.slice (some ⟨pg,0,none⟩) P pc)/\W.cell? ⟨pg,q,none⟩=some (.pointer (some ⟨pb q,0,none⟩))) (simp[*]) ((first|(go_at_call 50;refine SE.mono ?_;rintro e w2 ⟨rfl,dP⟩;obtain⟨s2,p2,ca⟩:=CA'.out w2 dP;unfold ptr at ca)|(go_at_call 73;refine ca.mono ?_;rintro e w3 ⟨rfl,τ2,qb2,ks2,wy,lU,Em,s3,p3⟩;have HT3:=(show Hid _ from Em);clear Em)))
   all_goals
    clear SE ca
    go_wp2_with fail
    go_roundw
    case rel=>exact⟨k+1,τ2,qb2,ks2,by omega,by go_num,wy,lU,HT3⟩
    case measure=>simp[intOf];omega
  ·have Ix:k=L.length:=by omega
   rw[Ix,List.take_length]at hW;clear hcell hpq Ix;go_wp2_with fail
   go_ret;exact⟨τ1,w.heap.size+1,w.heap.size,qb1,ks1,rfl,hW,hB,HT.out⟩
end
end
end Go.Proofs.YteoahlieielcdaaGreat
