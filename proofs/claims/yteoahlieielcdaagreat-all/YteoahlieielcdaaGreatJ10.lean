import Derived.Test.YteoahlieielcdaaGreatX6
import Derived.Test.YteoahlieielcdaaGreatJ12
set_option linter.all false
set_option maxHeartbeats 4000000
set_option maxRecDepth 100000
open Option renaming some->Y,none->F,getD_some->aa0
open Bool renaming false->E,true->Z6
open List renaming length_cons->al1,length_nil->ao7,size_toArray->aq6
open Go.Region renaming wanted->ac3
open And renaming intro->ad1
open Go renaming execOp->ad6,yielded->ai5
open Go.Conc renaming listed_nil->ai1,run_eq_of->aw6,stepG_region_end->ax5,stepG_region->bf1
open Go.Value renaming nilIface->an3
open Nat renaming le_trans->aj8,zero_add->am9,reduceAdd->at3
open List.range renaming loop->ak2
open Go.Deferred renaming ofValue->am1
namespace Go.Proofs.YteoahlieielcdaaGreat
open Go.Proofs.Tryz
variable{b c:ak}{k:List Item}{cs:List ak}{ops:Array Oper}{i n r n1:Nat}{o:Oper}{x:aD}{f:ay}{cap:Array aj}{O O':aL}{w w':af}{key val:ah}
section
open Go Go.Conc Go.ConcN Go.RowKit Go.Conc.Lib Go.MuLone
open Go.ConcR (KK wgBlock WgAt stA smA rd wr mk Payload Aside2 DC0)
section
variable {P:aB}{main:Bool}{J:Jm}{R:vn}{D:vo}{fn:ay}{Q:eK}{O:aL}{a:Act}{w:af}{n:Nat}
def mH(P:aB)(fn:Fn)(first cap:Array aj)(w:af):(Instr.makeFunc fn first cap).run P w=.ok (.func fn first cap) w:=rfl
def oa(P:aB)(fn:Fn)(first cap:Array aj)(w:af)(es:Array aC):(Instr.makeFunc fn first cap).events P w es=es:=rfl
def CJ{rest:List Nat}{ats:Array az}(ho:ops[i]?=Y o)(hw:ac3 o (ai5 ops a.tmps)=Z6)(hk:b.kind≠.early)
 (hop:o.op=.defer {callee:=.value x,args:=#[],argTypes:=ats}) (hx:a.eval x=.func (.func f) #[] cap):
 stepG P main (G (b.at a (.inRegion ops (i :: rest):: k)) cs) w=.go (G (b.at (Act.put ⟨a.tmps,{target:=.fn (.func f) cap,args:=#[]}:: a.defers⟩ o.dst undef) (.inRegion ops rest :: k)) cs) w #[]:=by
 have hr:(ad6 a.eval o).run P w=.ok (.defer {target:=.fn (.func f) cap,args:=#[]}) w:=by unfold ad6;simp[hop,resolve,am1,hx]
 have he:(ad6 a.eval o).events P w #[]=#[]:=by unfold ad6;simp[hop,resolve,am1,hx]
 have iu:(b.at ⟨a.tmps,{target:=.fn (.func f) cap,args:=#[]}:: a.defers⟩ (.inRegion ops (i :: rest):: k)).finish undef=b.at (Act.put ⟨a.tmps,{target:=.fn (.func f) cap,args:=#[]}:: a.defers⟩ o.dst undef) (.inRegion ops rest :: k):=by rw[Frame.finish_at,ho];rfl
 have hk':(b.kind == CallKind.early)=E:=by simpa using hk
 rw[stepG_oper ho hw,<-iu];simp[stepG.apply,hr,he,G,Frame.at,hk',GStep.after,seen_none]
def EL(T:cy R D){rest:List Nat}{ats:Array az}(ho:ops[i]?=Y o)(hw:ac3 o (ai5 ops a.tmps)=Z6)
 (hop:o.op=.defer {callee:=.value x,args:=#[],argTypes:=ats}) (hx:a.eval x=.func (.func f) #[] cap) (h:bQ P main J R D fn ops rest n Q O (Act.put ⟨a.tmps,{target:=.fn (.func f) cap,args:=#[]}:: a.defers⟩ o.dst undef) w):bQ P main J R D fn ops (i :: rest) (n+1) Q O a w:=
 λb k cs Stop m hb hk hc=>cN.quiet T rfl (λ_=>CJ ho hw hk hop hx) (h b k cs Stop m hb hk hc)
def AQ{rest:List Nat}{ats:Array az}(ho:ops[i]?=Y o)(hw:ac3 o (ai5 ops a.tmps)=Z6)
 (hop:o.op=.call {callee:=.builtin .recover,args:=#[],argTypes:=ats}) (hc:c.mode=.returning):
 stepG P main (G ((baseD f).at a (.inRegion ops (i :: rest):: k)) (c :: cs)) w=.go (G ((baseD f).at (a.put o.dst .nilIface) (.inRegion ops rest :: k)) (c :: cs)) w #[]:=by
 have hr:(ad6 a.eval o).run P w=.ok .recover w:=by unfold ad6;simp[hop,go_sem]
 have he:(ad6 a.eval o).events P w #[]=#[]:=by unfold ad6;simp[hop,go_sem]
 have iu:((baseD f).at a (.inRegion ops (i :: rest):: k)).finish .nilIface=(baseD f).at (a.put o.dst .nilIface) (.inRegion ops rest :: k):=by rw[Frame.finish_at,ho];rfl
 rw[stepG_oper ho hw,<-iu];simp[stepG.apply,hr,he,G,Frame.at,GStep.after,seen_none,baseD,tryRecover,hc]
end
noncomputable def CK:ak:={(default:ak)with fn:=prog.funcs.size,mode:=.panicking [goexitEntry]}
def yD(bw bf:Nat):Deferred:={target:=.fn (.func 118) #[.pointer (Y ⟨bw,0,F⟩),.pointer (Y ⟨bf,0,F⟩)],args:=#[]}
noncomputable def x9:Code:=f118.body.getD .skip
noncomputable def CL:Code:=f119.body.getD .skip
def Hq(bw bf:Nat)(w:af):stepG prog E (born prog (yD bw bf)) w=.go (G ((baseD 118).at ⟨#[.pointer (Y ⟨bw,0,F⟩),.pointer (Y ⟨bf,0,F⟩),undef,undef,undef], []⟩ [.code x9]) [CK]) w #[]:=by simp[born,yD,stepG,unwind,callDeferred,invoke,callFunc,func118,f118,seen,GStep.after,G,Frame.enter,Frame.at,baseD,CK,x9];rfl
def Xd(T:Array aj):QuitsD prog 2 0 (G {(baseD 118).at ⟨T, []⟩ []with mode:=.returning} [CK]):=by
 refine QuitsD.ctl (g':=G CK []) rfl (λw=>?_) ?_
 ·simp[G,stepG,unwind,doReturn,results,Frame.at,baseD,CK,func118,f118,seen,GStep.after,goexitEntry]
 refine QuitsD.ctl (g':={G CK []with status:=.finished}) rfl (λw=>?_) ⟨rfl,rfl⟩;simp[G,stepG,unwind,CK,goexitEntry,Frame.catches];rfl
variable {J:Jm}{L:eI}
@[reducible] def OO:Payload:=⟨215⟩
def VQ(Wg bw ab i:Nat)(key:ah)(m:Int)(val:ah)(O:aL)(g:au)(w:af):Prop:=
 letI:=OO
 O.pos=.lk .out 0/\(w.cell? ⟨ab,i*3,F⟩=Y (.string key)/\w.cell? ⟨ab,i*3+1,F⟩=Y (.int .i64 m)/\w.cell? ⟨ab,i*3+2,F⟩=Y (.string val))/\
   ∃r,Goes prog E (RW 155 Wg bw 1 0 0) (DWs Wg (λ_ _=>False) (λ_ _=>False) bw 1 1) (AtR0 prog 155 Wg bw 1 0 1 (.pointer (Y ⟨Wg,0,F⟩))) r g w
def Xe(nl:Nat):∃n,∀(bw bf b0 b1 b2 b3 b4 qb pb ab kb:Nat) (f:Lit->Option aj) (vl:Int->List KV) (key:ah) (ms:List Int) (cb:Option aA) (gX N lY i:Nat) (O:aL) (w:af),L.N<=w.heap.size->lq L pb kb f vl w->i<N->N<=8->¬L.Fx ab->L.Wg≠ab->(valueOf (vl (fI vl key ms)) key).size<=1000->Hid (∀j,j<3->L.Mn ⟨ab,i*3+j,F⟩/\(∃v,w.cell? ⟨ab,i*3+j,F⟩=Y v)/\w.frozen? ⟨ab,i*3+j,F⟩=E)->
 Ky L b0 b1 b2 b3 b4 qb pb ab key ms cb gX N lY i w->
 ms.length<=8->(∀m∈ms,0<=m/\m<=1000)->Hid (∀(k:Nat) (m:Int),ms[k]?=Y m->∃g,L.Fx g/\cb=Y ⟨g,0,F⟩/\w.cell? ⟨g,k,F⟩=Y (.int .i64 m))->
 EM E J L pb nl->O.pos=.lk .vk 1->¬O.own pb->
 L.Fx bf->w.cell? ⟨bf,0,F⟩=Y (.func (.func 80) #[] #[.pointer (Y ⟨b0,0,F⟩),.pointer (Y ⟨b1,0,F⟩),.pointer (Y ⟨b2,0,F⟩),.pointer (Y ⟨b3,0,F⟩),.pointer (Y ⟨b4,0,F⟩)])->
 cZ prog E J (RX L) (DX L) 118 x9 n (λO' e a' w'=>e=.normal/\a'.defers= [{target:=.fn (.func 119) #[.pointer (Y ⟨bw,0,F⟩)],args:=#[]}]/\O'.pos=.lk .out 0/\jq L w w'/\w'.cell? ⟨ab,i*3,F⟩=Y (.string key)/\w'.cell? ⟨ab,i*3+1,F⟩=Y (.int .i64 (fI vl key ms))/\w'.cell? ⟨ab,i*3+2,F⟩=Y (.string (valueOf (vl (fI vl key ms)) key))) O ⟨#[.pointer (Y ⟨bw,0,F⟩),.pointer (Y ⟨bf,0,F⟩),undef,undef,undef], []⟩ w:=by
 obtain⟨nw,hwk⟩:=OP (main:=E) (J:=J) (L:=L) nl;co_apply Exists.intro;intro bw bf b0 b1 b2 b3 b4 qb pb ab kb f vl key ms cb gX N lY i O w hN hP GX Xf hnf va hvs hmn hB h8 ve hcell hlk hpos hno Xg cf;have hF:bJ L O w O w:=bJ.refl hN;obtain⟨W,hW⟩:∃W,W=w:=⟨_,rfl⟩
 obtain⟨O1,hO⟩:∃O1,O1=O:=⟨_,rfl⟩
 rw[<-hW,<-hO]at hF⊢;rw[<-hW]at hP hcell hB hN hmn cf;rw[<-hO]at hpos hno;clear hW hO;have hm1:=mH prog;have hm2:=oa prog;dsimp only[x9,f118,aa0];co_apply (jO);(co_apply aO rfl Ym;intro _ hR K hK;replace hF:=bJ.rely hF hR;clear hR;(skip);go_simp;refine hK _ ⟨?_,?_⟩;(focus(rw[ai1 (by simp[go_sem,hm2])];exact DX.idle _ _));clear hK K;try walk_nrm);co_apply EL (aF L) rfl Ym rfl Ym;walk_nrm;co_apply (jO);(co_apply aO rfl Ym;intro _ hR K hK;replace hF:=bJ.rely hF hR;clear hR;(have hc:=hF.bg cf Xg);go_simp;refine hK _ ⟨?_,?_⟩;(focus(refine DX.still _ _ (cL (a:=⟨bf,0,F⟩) (.inl Xg) λe he=>?_);have hm:=mem_listed he;simp[go_sem,hc]at hm;exact hm));clear hK K;try walk_nrm);clear hc;have hpl:pb<W.heap.size:=World.block_lt_of_cell? W _ hP.cell;co_apply Hs (aF L) rfl Ym rfl Ym (by
  walk_nrm;exact hwk b0 b1 b2 b3 b4 qb pb ab kb f vl key ms cb gX N lY i _ _ hF.top (hP.ya hF) GX Xf hnf va hvs (λj hj=>⟨(hmn.out j hj).1,by obtain⟨v,hv⟩:=(hmn.out j hj).2.1;exact⟨v,((hF.rel.mn _ (hmn.out j hj).1).1).trans hv⟩,((hF.rel.mn _ (hmn.out j hj).1).2).trans (hmn.out j hj).2.2⟩)
   ⟨hB.f0,hB.f1,hB.f2,hB.f3,hB.f4,hB.fq,hF.bg hB.c0 hB.f0,hF.bg hB.c1 hB.f1,hF.bg hB.c2 hB.f2,hF.bg hB.c3 hB.f3,hF.bg hB.c4 hB.f4,hF.bg hB.cq hB.fq⟩ h8 ve (λk m hk=>by obtain⟨g,hg,e,hc⟩:=hcell.out k m hk;exact⟨g,hg,e,hF.bg hc hg⟩) hlk (hF.gh.1.trans hpos) (hF.oc hno hpl))
 rintro O2 x W2 ⟨⟨LD,gN⟩,rfl,q1,q2,q3⟩;walk_nrm;have Kz:jq L W W2:=⟨aj8 hF.rel.le gN.le,λi hi hx=>(gN.blk i (Nat.lt_of_lt_of_le hi hF.rel.le) hx).trans (hF.rel.blk i hi (.inr hx)),gN.live ∘ hF.rel.live⟩
 co_apply (jO);exact⟨Z5,Z5,LD,Kz,q1,q2,q3⟩
def cN.op{P:aB}{main:Bool}{J:Jm}{R:vn}{D:vo}{Stop:yE}{a:Act}{rest:List Nat}
 (ho:ops[i]?=Y o) (hw:ac3 o (ai5 ops a.tmps)=Z6) (hk:b.kind≠.early)
 (h:∀w₁,R O w w₁->∃v,(ad6 a.eval o).run P w₁=.ok (.value v) w₁/\D O w₁ w₁ (listed P b.fn a o w₁)/\cN P main J R D Stop n O (G (b.at (a.put o.dst v) (.inRegion ops rest :: k)) cs) w₁):
 cN P main J R D Stop (n+1) O (G (b.at a (.inRegion ops (i :: rest):: k)) cs) w:=
 cN.step rfl λw₁ h₁=>by obtain⟨v,h1,h2,h3⟩:=h w₁ h₁;rw[stepG_value ho hw hk h1];exact⟨h2,by rw[O.dG rfl];exact h3⟩
def Tt(d:Nat)(w:af)(es:Array aC):(Op.equalIn (d+1) 20 .nilIface .nilIface).events prog w es=es/\(Op.equalIn (d+1) 20 .nilIface .nilIface).run prog w=.ok Z6 w:=by
 have hu:(underlying 20).run prog w=.ok (.interface #[]) w:=Tryz.runUnderlying20 w;have he:(underlying 20).events prog w es=es:=YU
 rw[Op.equalIn];simp[hu,he]
def aaj(w:af):(binOp BinOp.neq 20 an3 an3).events prog w #[]=#[]:=by have e:binOp BinOp.neq 20 an3 an3=(Op.equalIn (9999+1) 20 .nilIface .nilIface >>= λb=>pure (.bool (!b))):=rfl;rw[e];simp[Tt 9999 w]
def aak{Wg bw ab:Nat}{m:Int}{T:Array aj}(hN:L.N<=w.heap.size)(hpos:O.pos=.lk .out 0)(hwg:L.Wg=Wg)(htw:L.tw=155)(Zv:L.Fx bw)(cw:w.cell? ⟨bw,0,F⟩=Y (.pointer (Y ⟨Wg,0,F⟩)))(hl:Ep L.tw L.Wg w)
 (hmn:∀j,j<3->L.Mn ⟨ab,i*3+j,F⟩) (q1:w.cell? ⟨ab,i*3,F⟩=Y (.string key)) (q2:w.cell? ⟨ab,i*3+1,F⟩=Y (.int .i64 m)) (q3:w.cell? ⟨ab,i*3+2,F⟩=Y (.string val)):
 cN prog E J (RX L) (DX L) (VQ Wg bw ab i key m val) 20 O (G ((baseD 119).at ⟨#[.pointer (Y ⟨bw,0,F⟩),undef,undef,undef,undef,undef,undef,undef], []⟩ [.code CL]) [{(baseD 118).at ⟨T, []⟩ []with mode:=.returning},CK]) w:=by
 have T0:=aF L;dsimp only[CL,f119,aa0];refine cN.quiet (n:=19) T0 rfl (λ_=>stepG_seq) ?_;refine cN.quiet (n:=18) T0 rfl (λ_=>stepG_seq) ?_;refine cN.quiet (n:=17) T0 rfl (λ_=>bf1) ?_;simp only[aq6,al1,ao7,at3,am9,List.range,ak2];refine cN.quiet (n:=16) T0 rfl (λ_=>AQ rfl Ym rfl rfl) ?_;walk_nrm;have hF:bJ L O w O w:=bJ.refl hN;obtain⟨W,hW⟩:∃W,W=w:=⟨_,rfl⟩
 rw[<-hW]at hF⊢;rw[<-hW]at cw hl q1 q2 q3;clear hW hN;refine cN.op (n:=15) rfl Ym (by simp[baseD]) λ_ hR=>?_;replace hF:=hF.rely hR;clear hR;refine⟨_,aw6 (by intro K hK;go_simp;exact hK),by(rw[ai1 YU];exact DX.idle _ _),?_⟩;walk_nrm;refine cN.quiet (n:=14) T0 rfl (λ_=>ax5) ?_;refine cN.quiet (n:=13) T0 rfl (λ_=>stepG_seq) ?_;refine cN.quiet (n:=12) T0 rfl (λ_=>bf1) ?_;simp only[aq6,al1,ao7,at3,am9,List.range,ak2];refine cN.op (n:=11) rfl Ym (by simp[baseD]) λ_ hR=>?_;replace hF:=hF.rely hR;clear hR;refine⟨_,aw6 (by intro K hK;go_simp;exact hK),by(rw[ai1 YU];exact DX.idle _ _),?_⟩;walk_nrm;refine cN.op (n:=10) rfl Ym (by simp[baseD]) λ_ hR=>?_;replace hF:=hF.rely hR;clear hR;refine⟨_,aw6 (by intro K hK;go_simp;exact hK),by(rw[ai1 (by simp[go_sem,aaj])];exact DX.idle _ _),?_⟩;walk_nrm;refine cN.quiet (n:=9) T0 rfl (λ_=>ax5) ?_;refine cN.quiet (n:=8) T0 rfl (λ_=>stepG_cond (t:=E) rfl) ?_;simp only[Bool.false_eq_true,if_false];refine cN.quiet (n:=7) T0 rfl (λ_=>stepG_skip) ?_;refine cN.quiet (n:=6) T0 rfl (λ_=>bf1) ?_;simp only[aq6,al1,ao7,at3,am9,List.range,ak2];refine cN.op (n:=5) rfl Ym (by simp[baseD]) λ_ hR=>?_;replace hF:=hF.rely hR;clear hR;have hc:=hF.bg cw Zv;refine⟨_,aw6 (by intro K hK;go_simp;exact hK),by(refine DX.still _ _ (cL (a:=⟨bw,0,F⟩) (.inl Zv) λe he=>?_);have hm:=mem_listed he;simp[go_sem,hc]at hm;exact hm),?_⟩;walk_nrm;clear hc;refine cN.stop λW1 hR=>?_;replace hF:=hF.rely hR;letI:=OO;refine⟨hpos,⟨((hF.rel.mn _ (hmn 0 I)).1).trans q1,((hF.rel.mn _ (hmn 1 I)).1).trans q2,((hF.rel.mn _ (hmn 2 I)).1).trans q3⟩,24,?_⟩;have Ht:=hF.rel.live hl;rw[hwg,htw]at Ht;refine LF (L:=Tryz.OS) (Wg:=Wg) (C:=bw) (n:=1) (Low:=0) (k:=1) Tryz.tR rfl Ym (by simp[baseD]) rfl (by first|(walk_nrm;done)|simp[Act.eval]) (qt:=5) ?_ W1 ⟨Ht,hF.bg cw Zv⟩;walk_nrm;refine QuitsD.ctl rfl (λ_=>ax5) ?_;refine QuitsD.ctl rfl (λ_=>stepG_end) ?_;exact QuitsD.leaveD rfl rfl func119 rfl rfl (Xd T)
def aal(nl:Nat):∃n,∀(Wg bw bf b0 b1 b2 b3 b4 qb pb ab kb:Nat) (f:Lit->Option aj) (vl:Int->List KV) (key:ah) (ms:List Int) (cb:Option aA) (gX N lY i:Nat) (O:aL) (w:af),L.N<=w.heap.size->lq L pb kb f vl w->i<N->N<=8->¬L.Fx ab->L.Wg≠ab->(valueOf (vl (fI vl key ms)) key).size<=1000->Hid (∀j,j<3->L.Mn ⟨ab,i*3+j,F⟩/\(∃v,w.cell? ⟨ab,i*3+j,F⟩=Y v)/\w.frozen? ⟨ab,i*3+j,F⟩=E)->
 Ky L b0 b1 b2 b3 b4 qb pb ab key ms cb gX N lY i w->
 ms.length<=8->(∀m∈ms,0<=m/\m<=1000)->Hid (∀(k:Nat) (m:Int),ms[k]?=Y m->∃g,L.Fx g/\cb=Y ⟨g,0,F⟩/\w.cell? ⟨g,k,F⟩=Y (.int .i64 m))->
 EM E J L pb nl->O.pos=.lk .vk 1->¬O.own pb->
 L.Fx bf->w.cell? ⟨bf,0,F⟩=Y (.func (.func 80) #[] #[.pointer (Y ⟨b0,0,F⟩),.pointer (Y ⟨b1,0,F⟩),.pointer (Y ⟨b2,0,F⟩),.pointer (Y ⟨b3,0,F⟩),.pointer (Y ⟨b4,0,F⟩)])->
 L.Wg=Wg->L.tw=155->L.Fx bw->w.cell? ⟨bw,0,F⟩=Y (.pointer (Y ⟨Wg,0,F⟩))->Ep L.tw L.Wg w->
 cN prog E J (RX L) (DX L) (VQ Wg bw ab i key (fI vl key ms) (valueOf (vl (fI vl key ms)) key)) n O (born prog (yD bw bf)) w:=by obtain⟨n,h⟩:=Xe (J:=J) (L:=L) nl;refine⟨22+n+1,λWg bw bf b0 b1 b2 b3 b4 qb pb ab kb f vl key ms cb gX N lY i O w hN hP GX Xf hnf va hvs hmn hB h8 ve hcell hlk hpos hno Xg cf hwg htw Zv cw hl=>?_⟩;have T0:=aF L;refine cN.quiet T0 rfl (λw₁=>Hq bw bf w₁) ?_;refine h bw bf b0 b1 b2 b3 b4 qb pb ab kb f vl key ms cb gX N lY i O w hN hP GX Xf hnf va hvs hmn hB h8 ve hcell hlk hpos hno Xg cf (baseD 118) [] [CK] _ (λ_=>22) rfl (by simp[baseD]) λO' e a' w' q=>?_;obtain⟨rfl,hd,hp,hS,q1,q2,q3⟩:=q;refine cN.quiet (n:=21) T0 rfl (λ_=>stepG_end) ?_;refine cN.quiet (n:=20) T0 rfl (λ_=>oQ (b:=baseD 118) (todo:= []) hd rfl func119 Ym rfl) ?_;have:=aak (J:=J) (T:=a'.tmps) (aj8 hN hS.le) hp hwg htw Zv (hS.bg cw Zv) (hS.live hl) (λj hj=>(hmn.out j hj).1) q1 q2 q3;simpa[CL,ntmps119,f119,Array.replicate_succ]using this
end
section
open Go Go.Conc Go.ConcM Go.RowKit Go.MuLone
section
variable {P:aB}{L:eI}{bT:Nat->au->af->(Nat->Prop)->(Nat->Prop)->Prop}{fn:ay}{Q:eK}{O O0:aL}{a:Act}{w w0:af}{n:Nat}{ops:Array Oper}{i:Nat}{rest:List Nat}{o:Oper}
def rA.alloc(h:rA L O0 w0 O w)(b:Obj):rA L O0 w0 (O.grow w (w.alloc b)) (w.alloc b):=⟨h.base,λi hi=>.inl (h.own i hi),h.rel.trans (RX.alloc _ h.top b),λi hi=>hi.elim (h.new i) λx=>.inr (aj8 h.rel.le x.1)⟩
def dZ.alloc{k:Nat}{c:Ct}(h:dZ L O0 w0 k c O w)(b:Obj):dZ L O0 w0 k c (O.grow w (w.alloc b)) (w.alloc b):=
 ⟨h.fr.alloc b,h.ok,h.pos,λx=>x.elim h.no λy=>by have:=h.ok.lo;have:=h.fr.top;omega,h.fu,(RX.alloc (L:=L) O h.fr.top b).live h.live⟩
def OB.SN{ob:Obj}(h:OB r ob O w)(x:rA L O w O' w'):OB r ob O' w':=⟨x.own _ h.own,(x.rel.blk r h.lt (.inl h.own)).trans h.heap⟩
def Hv(hp:O.pos=.mn (.go r)){ats:Array az}(ho:ops[i]?=Y o)(hw:ac3 o (ai5 ops a.tmps)=Z6)(hop:o.op=.go {callee:=.value x,args:=#[],argTypes:=ats})(hx:a.eval x=.func (.func f) #[] cap)
 (k1:∀w₁,RX L O w w₁->∃gP,bT r (born P {target:=.fn (.func f) cap,args:=#[]}) w₁ O.own gP/\bQ P Z6 (jc P L.tw L.Wg bT) (RX L) (DX L) fn ops rest n1 Q (O.jump gP (.mn (.sp (r-1)))) (a.put o.dst undef) w₁):
 bQ P Z6 (jc P L.tw L.Wg bT) (RX L) (DX L) fn ops (i :: rest) n Q O a w:=by
 refine qL λb k cs hb hk w₁ h₁ c x rz _ _ _ _=>?_;rw[hp]at rz;cases rz;refine⟨XI,λr' hr=>?_,XI,by simp[pJ]⟩;cases hr;have hr:(ad6 a.eval o).run P w₁=.ok (.spawn {target:=.fn (.func f) cap,args:=#[]}) w₁:=by unfold ad6;simp[hop,resolve,am1,hx]
 have he:(ad6 a.eval o).events P w₁ #[]=#[]:=by unfold ad6;simp[hop,resolve,am1,hx]
 obtain⟨gP,q1,q2⟩:=k1 w₁ h₁;have hst:=stepG_spawn (main:=Z6) (b:=b) (k:=k) (cs:=cs) (rest:=rest) ho hw hk hr rfl;have hl:listed P b.fn a o w₁=#[]:=ai1 he;rw[hl]at hst;exact⟨_,_,gP,hst,rfl,q1,rest,_,n1,rfl,q2⟩
end
variable {L:eI}{bT:Nat->au->af->(Nat->Prop)->(Nat->Prop)->Prop}
def aL.keep(O:aL)(Kp:Nat->Prop):aL:=⟨Kp,O.pos,O.fu⟩
def dZ.give{O0:aL}{w0:af}{k:Nat}{c c':Ct}{Kp:Nat->Prop}(h:dZ L O0 w0 k c O w)(hk:∀i,Kp i->O0.own i):dZ L (O0.keep Kp) w0 k c' (O.jump Kp (.mn c')) w:=
 ⟨⟨h.fr.base,λ_ x=>x,h.fr.rel.anti hk,λ_ x=>.inl x⟩,h.ok,rfl,λx=>h.no (h.fr.own _ (hk _ x)),aj8 (Nat.sub_le _ _) h.fu,h.live⟩
def ae9:∃n,∀(ff:Fn) (cap:Array aj) (O1:aL) (W:af) (k r:Nat) (Kp:Nat->Prop) (O:aL) (w:af),1<=r->dZ L O1 W k (.sp r) O w->(∀i,Kp i->O1.own i)->
 (∀(O2:aL) (w2:af) (bw bf:Nat),dZ L O1 W k (.go r) O2 w2->W.heap.size<=bw->W.heap.size<=bf->bw≠bf->OB bw (.cells #[.pointer (Y ⟨L.Wg,0,F⟩)] 215) O2 w2->OB bf (.cells #[.func ff #[] cap] 1) O2 w2->bT r (born prog (yD bw bf)) w2 O2.own Kp)->
 bG prog Z6 (jc prog L.tw L.Wg bT) (RX L) (DX L) 79 #[.pointer (Y ⟨L.Wg,0,F⟩),.func ff #[] cap] n O w λO' v w'=>v=.tuple #[]/\O'.own=Kp/\dZ L (O1.keep Kp) W k (.sp (r-1)) O' w':=by
 obtain⟨na,ha⟩:=OV (L:=L) (bT:=bT);co_apply Exists.intro;intro ff cap O1 W k r Kp O w hr hS hKp EN;have aaL:Hid (∀(O2:aL) (w2:af) (bw bf:Nat),dZ L O1 W k (.go r) O2 w2->W.heap.size<=bw->W.heap.size<=bf->bw≠bf->OB bw (.cells #[.pointer (Y ⟨L.Wg,0,F⟩)] 215) O2 w2->OB bf (.cells #[.func ff #[] cap] 1) O2 w2->bT r (born prog (yD bw bf)) w2 O2.own Kp):=EN;clear EN;have hm1:=mH prog;have hm2:=oa prog;co_apply bH func79 Ym rfl;walk_nrmf ntmps79;co_apply (jO);co_apply bM rfl Ym;intro W1 hR K hK;replace hS:=dZ.rely hS hR;clear hR;go_simp;refine hK _ _ ⟨?_,?_⟩
 ·rw[ai1 YU];exact DX.alloc _ _ _
 clear hK K;try walk_nrm
 have CO:W.heap.size<=W1.heap.size:=hS.fr.rel.le;have hG:=ad1 (hS.alloc (.cells #[.pointer (Y ⟨L.Wg,0,F⟩)] 215)) (OB.new O W1 (.cells #[.pointer (Y ⟨L.Wg,0,F⟩)] 215));clear hS;generalize (O.grow W1 (W1.alloc (.cells #[.pointer (Y ⟨L.Wg,0,F⟩)] 215)))=O2 at hG⊢;generalize (W1.alloc (.cells #[.pointer (Y ⟨L.Wg,0,F⟩)] 215))=W2 at hG⊢;generalize W1.heap.size=bw at hG CO⊢;co_apply bM rfl Ym;intro W3 hR K hK;replace hG:=ad1 (dZ.rely hG.1 hR) (OB.rely hG.2 hR);clear hR;go_simp;refine hK _ _ ⟨?_,?_⟩
 ·rw[ai1 YU];exact DX.alloc _ _ _
 clear hK K;try walk_nrm
 have OY:W.heap.size<=W3.heap.size:=hG.1.fr.rel.le;have hb:bw≠W3.heap.size:=Nat.ne_of_lt hG.2.lt;have hH:=ad1 (hG.1.alloc (.cells #[.func ff #[] cap] 1)) (ad1 (hG.2.alloc (.cells #[.func ff #[] cap] 1)) (OB.new O2 W3 (.cells #[.func ff #[] cap] 1)));clear hG;generalize (O2.grow W3 (W3.alloc (.cells #[.func ff #[] cap] 1)))=O3 at hH⊢;generalize (W3.alloc (.cells #[.func ff #[] cap] 1))=W4 at hH⊢;generalize W3.heap.size=bf at hH OY hb⊢;have rl:∀{c:Ct} {o o':Obj} {O3:aL} {Wa Wb:af},(dZ L O1 W k c O3 Wa/\OB bw o O3 Wa/\OB bf o' O3 Wa)->RX L O3 Wa Wb->(dZ L O1 W k c O3 Wb/\OB bw o O3 Wb/\OB bf o' O3 Wb):=λh x=>⟨h.1.rely x,h.2.1.rely x,h.2.2.rely x⟩
 co_apply (jO);(co_apply aO rfl Ym;intro _ hR K hK;replace hH:=rl hH hR;clear hR;(have hc:World.cell? _ ⟨bw,0,F⟩=Y (.pointer (Y ⟨L.Wg,0,F⟩)):=(show aT _ bw #[.pointer (Y ⟨L.Wg,0,F⟩)] 215 from hH.2.1.heap).cell (o:=0) rfl);go_simp;refine hK _ ⟨?_,?_⟩;(focus(refine DX.still _ _ (cW (b:=E) hH.2.1.own λe he=>?_);have hm:=mem_listed he;simp[go_sem,hc]at hm;subst hm;exact⟨_,rfl,rfl⟩));clear hK K;try walk_nrm);clear hc;co_apply bX (aF L) rfl Ym rfl (by walk_nrm;exact ha _ _ k r _ _ hr ⟨rA.refl hH.1.fr.top,hH.1.ok,hH.1.pos,hH.1.no,hH.1.fu,hH.1.live⟩);rintro O4 x W6 ⟨rfl,hA⟩;have hI:=ad1 (show dZ L O1 W k (.go r) O4 W6 from⟨hH.1.fr.trans hA.fr,hA.ok,hA.pos,hA.no,hA.fu,hA.live⟩) (ad1 (hH.2.1.SN hA.fr) (hH.2.2.SN hA.fr));clear hH hA;walk_nrm;co_apply (jO);(co_apply aO rfl Ym;intro _ hR K hK;replace hI:=rl hI hR;clear hR;(skip);go_simp;refine hK _ ⟨?_,?_⟩;(focus(rw[ai1 (by simp[go_sem,hm2])];exact DX.idle _ _));clear hK K;try walk_nrm);co_apply Hv (n:=0) hI.1.pos rfl Ym rfl Ym;intro W7 hR;replace hI:=rl hI hR;clear hR;refine⟨Kp,aaL.out _ _ _ _ hI.1 CO OY hb hI.2.1 hI.2.2,?_⟩;have hE:=hI.1.give (c':=.sp (r-1)) hKp;have hown:(O4.jump Kp (.mn (.sp (r-1)))).own=Kp:=rfl;clear hI;generalize O4.jump Kp (.mn (.sp (r-1)))=O5 at hE hown⊢;walk_nrm;co_apply (jO);exact .inl ⟨rfl,_,bW (aF L) (resultsC_none Ym _),rfl,hown,hE⟩
end
end Go.Proofs.YteoahlieielcdaaGreat
