import Derived.Test.YteoahlieielcdaaGreatZ4
import Derived.Conc.LoneCalls
import Derived.Test.YteoahlieielcdaaGreatT1
set_option linter.all false
set_option maxHeartbeats 2000000
namespace Go.Proofs.YteoahlieielcdaaGreat
abbrev zbf:=@List.mem_cons_of_mem
abbrev zbg:=@List.mem_cons
abbrev zbh:=@List.mem_cons_self
variable{s:Sem Next}{o:Outcome}{b:Bool}{f:FuncId}{w w' w1 v2:World}{es xN:Array Event}{c:Call}{n d:Nat}{fn:Func}{a g g1:Goroutine}{h:Halt}{m:Mark}{fr fr' gC:Frame}{cs c' c1:List Frame}{P:Program}{e:Array Value->Sem Value}{δ:Nat->Nat}
section
open Go
variable {P:Program}{Sb:Nat->Prop}{qt:Prop}
theorem zF:∀(d:Nat) (t:TypeId) (x y:Value),af P Sb qt (Op.equalIn d t x y)
 | 0,t,x,y=>af.halt
 |d+1,t,x,y=>by have ih:=zF d;unfold Op.equalIn;exact gdA
theorem P3(t:TypeId)(x y:Value):af P Sb qt (Op.equal t x y):=zF _ t x y
theorem tY:∀(d:Nat) (t:TypeId) (x y:Value),af P Sb qt (Op.eqGuardIn d t x y)
 | 0,t,x,y=>af.halt
 |d+1,t,x,y=>by have ih:=tY d;unfold Op.eqGuardIn;exact gdA
theorem mg(b:Bool):∀(d:Nat) (t:TypeId) (x:Value),af P Sb qt (Instr.checkKey b d t x)
 | 0,t,x=>af.halt
 |d+1,t,x=>by have ih:=mg b d;unfold Instr.checkKey;exact gdA
theorem rE(t:TypeId)(x:Value):∀(l:List MapEntry) (i:Nat),af P Sb qt (Instr.findAsking t x l i)
 | [],i=>af.pure
 |e :: l,i=>by have ih:=rE t x l;unfold Instr.findAsking;exact gdA
theorem sG(t:TypeId)(x:Value)(l:List MapEntry):af P Sb qt (Instr.findKey t x l):=by unfold Instr.findKey;exact gdA
theorem B4(t:TypeId)(x y:Value)(b:Bool):af P Sb qt (Instr.lookup t x y b):=by unfold Instr.lookup;exact gdA
theorem xe(x y:Value):af P Sb qt (Instr.keyThatStays x y):=by unfold Instr.keyThatStays;exact gdA
theorem tZ(t:TypeId)(x y z:Value):af P Sb qt (Instr.mapUpdate t x y z):=by unfold Instr.mapUpdate;exact gdA
theorem FW(t:TypeId)(x:Value):af P Sb qt (Instr.range t x):=by unfold Instr.range;exact gdA
theorem Kt(x:Value)(b:Bool)(t:TypeId):af P Sb qt (Instr.next x b t):=by unfold Instr.next;exact gdA
theorem FX(x:Value):af P Sb qt (Instr.entry x):=by unfold Instr.entry;exact gdA
theorem zG(x:Value)(n:Nat):af P Sb qt (Instr.extract x n):=by unfold Instr.extract;exact gdA
theorem uf{α:Type}(e:RuntimeError):oP P (runtimePanic e:Sem α):=by unfold runtimePanic;refine kT fun p=>?_;cases e<;>dsimp only<;>first|exact om _|exact kT fun _=>kT fun _=>om _
theorem B5(x:Value):af P Sb qt (Instr.panic x):=by
 refine .qy ?_;unfold Instr.panic;split
 ·exact om _
 ·exact kT fun n=>by split;exact om _;exact uf _
 ·exact dz _
theorem jX(op:BinOp)(k:IntKind)(x y:Int):af P Sb qt (Op.intArith op k x y):=by unfold Op.intArith;exact gdA
theorem sF(op:BinOp)(k:IntKind)(x y:Int):af P Sb qt (Op.intBits op k x y):=by unfold Op.intBits;exact gdA
theorem Mp(op:BinOp)(x y:Int):af P Sb qt (Op.intCmp op x y):=by unfold Op.intCmp;exact gdA
theorem Mq(op:BinOp)(k:IntKind)(x y:Int):af P Sb qt (Op.intDiv op k x y):=by unfold Op.intDiv;exact gdA
theorem P4(op:BinOp)(k:IntKind)(x:Int)(k':IntKind)(y:Int):af P Sb qt (Op.shift op k x k' y):=by unfold Op.shift;exact gdA
theorem rF(op:BinOp)(k:FloatKind)(x y:Nat):af P Sb qt (Op.floatArith op k x y):=by unfold Op.floatArith;exact gdA
theorem wE(op:BinOp)(k:FloatKind)(x y:Nat):af P Sb qt (Op.floatCmp op k x y):=by unfold Op.floatCmp;exact gdA
theorem ko(s:FloatKind)(b:Nat)(k:FloatKind):af P Sb qt (Conv.floatToFloat s b k):=by unfold Conv.floatToFloat;exact gdA
theorem qc(op:BinOp)(k:FloatKind)(x y:Nat):af P Sb qt (Op.Complex.arith op k x y):=by unfold Op.Complex.arith;exact gdA
theorem P8(op:BinOp)(k:FloatKind)(x y:Nat):af P Sb qt (Op.Complex.cmp op k x y):=by unfold Op.Complex.cmp;exact gdA
theorem SY(k:FloatKind)(x:Nat)(k':FloatKind):af P Sb qt (Op.Complex.conv k x k'):=by unfold Op.Complex.conv;exact gdA
theorem Dq(x y:Nat):af P Sb qt (Op.Complex.add x y):=qc ..
theorem Dr(x y:Nat):af P Sb qt (Op.Complex.sub x y):=qc ..
theorem Ds(x y:Nat):af P Sb qt (Op.Complex.mul x y):=qc ..
theorem SZ(x y:Nat):af P Sb qt (Op.Complex.quo x y):=qc ..
theorem I3(a b c d:Nat):af P Sb qt (Op.Complex.product a b c d):=by unfold Op.Complex.product;exact gdA
theorem Dt(s a b c d:Nat):af P Sb qt (Op.Complex.corrected s a b c d):=by unfold Op.Complex.corrected;exact gdA
theorem FY(a b c d:Nat):af P Sb qt (Op.Complex.quotient a b c d):=by unfold Op.Complex.quotient;exact gdA
theorem Du(op:BinOp)(k:FloatKind)(a b c d:Nat):af P Sb qt (Op.complexOp op k a b c d):=by unfold Op.complexOp;exact gdA
theorem wF(op:BinOp)(x y:ByteArray):af P Sb qt (Op.stringOp op x y):=by unfold Op.stringOp;exact gdA
theorem FZ(op:UnOp)(x:Value):af P Sb qt (Op.unary op x):=by unfold Op.unary;exact gdA
theorem ug(a b:Addr):af P Sb qt (Op.twoPlaces a b):=by unfold Op.twoPlaces;exact gdA
theorem I4(k:IntKind)(a b:Addr):af P Sb qt (Op.addrSub k a b):=by unfold Op.addrSub;exact gdA
theorem I5(op:BinOp)(a b:Addr):af P Sb qt (Op.addrCmp op a b):=by unfold Op.addrCmp;exact gdA
theorem I6(k:IntKind)(a:Addr)(n:Int):af P Sb qt (Op.addrMod k a n):=by unfold Op.addrMod;exact gdA
theorem F0(k:IntKind)(n:Int):af P Sb qt (Conv.intToInt k n):=af.pure
theorem Bi(k:FloatKind)(n:Int):af P Sb qt (Conv.intToFloat k n):=af.pure
theorem Bj(k:FloatKind)(b:Nat)(k':IntKind):af P Sb qt (Conv.floatToInt k b k'):=by unfold Conv.floatToInt;exact gdA
theorem qW(k:FloatKind)(x y:Nat)(k':FloatKind):af P Sb qt (Conv.complexToComplex k x y k'):=by unfold Conv.complexToComplex;exact gdA
theorem zH(n:Int):af P Sb qt (Conv.intToString n):=af.pure
theorem vo(t:TypeId)(s:ByteArray):af P Sb qt (Conv.stringToBytes t s):=by unfold Conv.stringToBytes;exact gdA
theorem vp(x:Value):af P Sb qt (Conv.bytesToString x):=by unfold Conv.bytesToString;exact gdA
theorem vq(t:TypeId)(s:ByteArray):af P Sb qt (Conv.stringToRunes t s):=by unfold Conv.stringToRunes;exact gdA
theorem vr(x:Value):af P Sb qt (Conv.runesToString x):=by unfold Conv.runesToString;exact gdA
theorem vu(a:Addr):af P Sb qt (Conv.seenAt a):=by unfold Conv.seenAt;exact gdA
theorem vw(s d:TypeId)(x:Value):af P Sb qt (Conv.unsafePointer s d x):=by
 unfold Conv.unsafePointer;refine af.bind (aF _) fun u1=>af.bind (aF _) fun u2=>?_;split;case h_4=>
  refine af.bind (vu _) fun a=>?_;refine af.bind (cY _) fun n=>?_;by_cases hn:n=0
  ·subst hn;simp only[decide_true,Bool.true_or,if_true];exact qV (af.pure' _)
  ·simp only[hn,decide_false,Bool.false_or];by_cases hb:Sb a.block
   ·constructor;intro v w x v' hs hr hg es;exfalso;obtain⟨c,t,h0,h1,h2,h3⟩:=mZ hb hs;rw[run_bind,<-Sem.runT_fst P _ v #[],mY]at hr;have e:∀u,tS P a u 1 v=false:=fun u=>by unfold tS;rw[h2]
    rw[e]at hr;simp only[Bool.false_eq_true,if_false]at hr;rw[run_bind]at hr;have e2:(shape a.block).run P v=.ok none v:=by show Result.ok (v.shape? a.block) v=_;rw[h2]
    rw[e2]at hr;exact(gX (gW _)).no _ _ _ hr
   ·exact gdA
 all_goals exact gdA
theorem uh(a:Array TypeId)(t:TypeId)(x:Array Value):af P Sb qt (Builtin.unsafeAdd_ a t x):=by unfold Builtin.unsafeAdd_;rcases x with⟨_|⟨a0,_|⟨a1,_|⟨a2,l⟩⟩⟩⟩ <;>first|exact af.halt|(cases a0<;>first|exact af.halt|(refine af.bind (jY _) (fun n=>?_);exact gdA))
theorem zI(t:TypeId)(x y:Value):af P Sb qt (movedNumber t x y):=by unfold movedNumber;exact gdA
theorem xf(t:TypeId)(x y:Value):af P Sb qt (movedPointer t x y):=by unfold movedPointer;exact gdA
theorem zJ(op:BinOp)(t:TypeId)(x y:Operand)(a b:Value):af P Sb qt (eqGuard op t x y a b):=by unfold eqGuard;exact gdA
theorem F1(op:BinOp)(t:TypeId)(x y:Value):af P Sb qt (binOp op t x y):=by unfold binOp;exact gdA
theorem zK(s d:TypeId)(qT:(s == d)=false)(x:Value):af P Sb qt (convert s d x):=by unfold convert;simp only[qT];exact gdA
theorem F2(v:Value):af P Sb qt (Builtin.lenOf v):=by unfold Builtin.lenOf;exact gdA
theorem rG(a b:Nat)(v:Value):af P Sb qt (Builtin.firstCells a b v):=by unfold Builtin.firstCells;exact gdA
theorem Mr(a:Array TypeId)(t:TypeId)(x:Array Value):af P Sb qt (Builtin.append_ a t x):=by unfold Builtin.append_;exact gdA
theorem S1(a:Array TypeId)(t:TypeId)(x:Array Value):af P Sb qt (Builtin.copy_ a t x):=by unfold Builtin.copy_;exact gdA
theorem Ms(a:Array TypeId)(t:TypeId)(x:Array Value):af P Sb qt (Builtin.delete_ a t x):=by unfold Builtin.delete_;exact gdA
theorem WM(a:Array TypeId)(t:TypeId)(x:Array Value):af P Sb qt (Builtin.len_ a t x):=by unfold Builtin.len_;exact gdA
theorem S2(x y:Value):af P Sb qt (Builtin.max2 x y):=by unfold Builtin.max2;exact gdA
theorem WN(a:Array TypeId)(t:TypeId)(x:Array Value):af P Sb qt (Builtin.max_ a t x):=by unfold Builtin.max_;exact gdA
theorem xg(a:Array TypeId)(t:TypeId)(x:Array Value):af P Sb qt (Builtin.unsafeString_ a t x):=by unfold Builtin.unsafeString_;rcases x with⟨_|⟨a0,_|⟨a1,_|⟨a2,l⟩⟩⟩⟩ <;>first|exact af.halt|(cases a0<;>first|exact af.halt|(refine af.bind (jY _) (fun n=>?_);exact gdA))
end
section
open Go
variable {P:Program}{Sb:Nat->Prop}{qt:Prop}
theorem qd:∀(l:List FieldStep) (t:TypeId) (x:Option Value),af P Sb qt (followBlind l t x)
 | [],t,x=>af.pure
 |s :: l,t,x=>by have ih:=qd l;unfold followBlind;exact gdA
theorem wG:∀(n:Nat) (t:TypeId) (v:Value) (s:String),af P Sb qt (nilAhead n t v s)
 | 0,t,v,s=>af.pure
 |n+1,t,v,s=>by have ih:=wG n;have ih2:=qd (P:=P) (Sb:=Sb) (qt:=qt);unfold nilAhead;repeat' (first|exact ih2 ..|(repeat' (first|(with_reducible first|exact af.pure' _|exact af.pure|exact aG ..|exact fY ..|exact aF ..|exact ih ..|refine af.bind ?_ (fun _=>?_))|dsimp only|split|intro _)))
theorem cR{s:Sem Value}(h:af P Sb qt s):af P Sb qt (do pure (Next.value (<-s)):Sem Next):=af.bind h fun _=>af.pure
theorem Ku{s:Sem Unit}(h:af P Sb qt s):af P Sb qt (do s;pure Next.skip:Sem Next):=af.bind h fun _=>af.pure
theorem xP{ρ:Operand->Value}{o:Oper}(h:qE o.op=true):af P Sb qt (execOp ρ o):=by
 unfold execOp;cases ho:o.op<;>rw[ho]at h<;>first|(cases h;done)|skip
 case nilCheck x=>
  dsimp only;repeat' (first|exact wG ..|(repeat' (first|(with_reducible first|exact af.pure' _|exact af.pure|exact dB ..|exact bN ..|exact qD ..|exact FQ ..|exact B3 ..|exact zA ..|exact zB ..|exact zC ..|exact zD ..|exact P2 ..|exact FR ..|exact rD ..|exact m8 ..|exact zE ..|exact tX ..|exact FU ..|exact FV ..|exact B4 ..|exact tZ ..|exact FW ..|exact Kt ..|exact FX ..|exact zG ..|exact B5 ..|exact FZ ..|exact zJ ..|exact F1 ..|exact zK ..|exact bT|refine af.bind ?_ (fun _=>?_)|refine bn ?_ ?_)|dsimp only|split|intro _)))
 case convert s d x=>exact cR (zK _ _ (by simpa[qE]using h) _)
 all_goals first
  |exact af.pure
  |exact cR (FQ ..)|exact cR (P2 ..)|exact cR (FR ..)|exact cR (rD ..)|exact cR (B3 ..)|exact Ku (zA ..)
  |exact cR (af.bind (zJ ..) fun _=>F1 ..)|exact cR (FZ ..)|exact cR (m8 ..)|exact cR (FT ..)
  |exact cR (zE ..)|exact cR (tX ..)|exact cR (zD ..)|exact cR (zB ..)|exact cR (FU ..)|exact cR (zC ..)|exact cR (FV ..)
  |exact cR (B4 ..)|exact Ku (tZ ..)|exact cR (FW ..)|exact cR (Kt ..)|exact cR (FX ..)|exact cR (zG ..)|exact cR (B5 ..)
  |exact af.bind (qD _) fun _=>af.pure
theorem I7{b:Builtin}(h:Dv b=true)(a:Array TypeId)(t:TypeId)(c:Array Bool)(x:Array Value):af P Sb qt (builtin b a t c x):=by
 unfold builtin;cases b<;>first|(cases h;done)|skip
 all_goals first|exact cR (Mr ..)|exact cR (S1 ..)|exact cR (Ms ..)|exact cR (WM ..)|exact cR (WN ..)|exact cR (xg ..)
end
section
open Go Go.Conc
variable {P:Program}{Sb:Nat->Prop}{qt:Prop}
theorem I8(t:TypeId)(x:Place):af P Sb qt (x.get t):=by unfold Place.get;exact gdA
theorem B6:∀(l:List FieldStep) (t:TypeId) (x:Place),af P Sb qt (follow l t x)
 | [],t,x=>af.pure
 |s :: l,t,x=>by have ih:=B6 l;unfold follow;repeat' (first|exact I8 ..|(repeat' (first|(with_reducible first|exact af.pure|exact aG ..|exact aF ..|exact Ks ..|exact iC ..|exact Bb ..|exact ih ..|refine af.bind ?_ (fun _=>?_)|refine bn ?_ ?_)|dsimp only|split|intro _)))
theorem S3(a:Array TypeId)(t:TypeId)(p:Value)(x y:ByteArray):af P Sb qt (Builtin.ssaWrapNilChk_ a t #[p,.string x,.string y]):=by
 cases p with
 |pointer o=>
  cases o with
  |some ad=>exact af.pure
  |none=>
   refine af.bind (cX _) fun n=>?_;exact gdA
 |_=>exact af.halt
theorem Bl(t:TypeId)(x:Place)(b:Bool)(s:Option String):af P Sb qt (receiverAt t x b s):=by unfold receiverAt;repeat' (first|exact I8 ..|exact S3 ..|(repeat' (first|(with_reducible first|exact af.pure' _|exact aG ..|exact aF ..|exact oq ..|exact iC ..|refine cM ?_|refine af.bind ?_ (fun _=>?_))|dsimp only|split|intro _)))
theorem B7:∀(n:Nat) (t:TypeId) (v:Value) (s:String),af P Sb qt (method n t v s)
 | 0,t,v,s=>af.halt
 |n+1,t,v,s=>by have ih:=B7 n;unfold method;repeat' (first|exact B6 ..|exact Bl ..|exact I8 ..|(repeat' (first|(with_reducible first|exact af.pure' _|exact af.halt|exact aG ..|exact fY ..|exact bN ..|exact ih ..|refine af.bind ?_ (fun _=>?_))|dsimp only|split|intro _)))
theorem I9(fn:Func)(tmps:Array Value):af P Sb qt (results fn tmps):=by
 unfold results;refine af.bind (FM fun r=>?_) fun _=>af.pure;cases r with
 |tmp t=>exact af.pure
 |cell a t=>exact af.bind (iC _) fun _=>oq ..
theorem deaf_good{α:Type}{s:Sem α}{x:α}(h:af P (fun _=>False) True s)(hr:s.runT P w #[]=(.ok x w',es))(d:Nat):deafBehind d (seen P f es)=d:=by
 refine M6 (fun e he=>?_) d;obtain⟨w1,xN,h1,-,-,-,h5⟩:=h.Ar (v:=w) (w:=w) ⟨rfl,fun _ _=>rfl,fun _ h=>h.elim,rfl,rfl⟩ (by rw[<-Sem.runT_fst P s w #[],hr]) (fun _ _ _=>rfl) #[];rw[hr]at h1;cases h1;rcases h5 e he with h6|h6
 ·simp at h6
 ·exact h6.2 trivial
end
section
open Go Go.Conc
section
variable {P:Program}{T:gI}{d d1 out:Nat}{fr:Frame}{cs1:List Frame}{w:World}{ops:Array Oper}{i:Nat}{is:List Nat}{k:List Item}{o:Oper}{X:List (Nat×Nat)}
theorem Ca(hf:rI T fr out)(hm:fr.mode=.run)(ht:fr.todo=.inRegion ops (i :: is):: k)(ho:ops[i]?=some o)(Kw:Region.wanted o (yielded ops fr.tmps)=true)(cs:List Frame):stepG P true (G fr cs) w=stepG.apply P true fr cs none (execOp fr.eval o) w:=by obtain⟨fn,tmps,todo,defers,mode,kind,ro⟩:=fr;obtain rfl:ro=none:=hf.round;obtain rfl:mode=.run:=hm;obtain rfl:todo=.inRegion ops (i :: is):: k:=ht;simp only[stepG,G,stepG.exec,ho,Option.map_some,Option.getD_some];simp only at Kw;rw[Kw];simp only[if_true,stepG.oper,Frame.oper?,ho]
theorem jM(hf:rI T fr out)(hm:fr.mode=.run)(ht:fr.todo=.inRegion ops (i :: is):: k)(Kw:((ops[i]?).map (Region.wanted · (yielded ops fr.tmps))).getD false=false)(cs:List Frame):stepG P true (G fr cs) w=.go (G (fr.finish undef) cs) w #[]:=by
 obtain⟨fn,tmps,todo,defers,mode,kind,ro⟩:=fr;obtain rfl:ro=none:=hf.round;obtain rfl:mode=.run:=hm;obtain rfl:todo=.inRegion ops (i :: is):: k:=ht;have h:¬(((ops[i]?).map (Region.wanted · (yielded ops tmps))).getD false=true):=by simp only at Kw;rw[Kw];simp
 exact if_neg h
theorem Ty(hf:rI T fr out):(fr.kind == CallKind.early)=false:=by rcases hf.kind with h|h<;>rw[h]<;>rfl
theorem uq(hf:rI T fr out)(ht:fr.todo=.inRegion ops (i :: is):: k)(cs:List Frame):
 (∀v,s.runT P w #[]=(.ok (.value v) w',es)->stepG.apply P true fr cs none s w=.go (G (fr.finish v) cs) w' (seen P fr.fn es))/\
 (s.runT P w #[]=(.ok .skip w',es)->stepG.apply P true fr cs none s w=.go (G (fr.finish undef) cs) w' (seen P fr.fn es))/\
 (∀x,s.runT P w #[]=(.ok (.defer x) w',es)->stepG.apply P true fr cs none s w=.go (G ({fr with defers:=x :: fr.defers}.finish undef) cs) w' (seen P fr.fn es))/\
 (∀f args,s.runT P w #[]=(.ok (.enter f args) w',es)->stepG.apply P true fr cs none s w=.go (G (Frame.enter P f args .normal) (fr :: cs)) w' (seen P fr.fn es)):=by
 have hk:=Ty hf;refine⟨fun v h=>?_,fun h=>?_,fun x h=>?_,fun f args h=>?_⟩
 ·simp only[stepG.apply,if_true,h,hk,Bool.false_eq_true,if_false,GStep.after,Array.append_empty];rfl
 ·simp only[stepG.apply,if_true,h,hk,Bool.false_eq_true,if_false,GStep.after,Array.append_empty];rfl
 ·simp only[stepG.apply,if_true,h,hk,Bool.false_eq_true,if_false,GStep.after,Array.append_empty];rfl
 ·simp only[stepG.apply,if_true,h,hk,Bool.false_eq_true,if_false,GStep.after,Array.append_empty,ht];rfl
theorem B9(h1:o.op=.call c)(h2:c.callee=.value (.func f)):execOp fr.eval o=callFunc f (c.args.map fr.eval):=by unfold execOp;rw[h1];simp only[resolve,h2,Frame.eval,Deferred.ofValue];show invoke (.fn (.func f) #[]) (#[]++c.args.map fr.eval)=_;simp[invoke]
theorem uk{b:Builtin}(h1:o.op=.call c)(h2:c.callee=.builtin b):execOp fr.eval o=builtin b c.argTypes o.type (c.args.map fun|.const _=>true|_=>false) (c.args.map fr.eval):=by unfold execOp;rw[h1];simp only[resolve,h2];rfl
theorem F6(h1:o.op=.call c)(h2:c.callee=.value (.tmp n)){fn:Fn}{a b:Array Value}(h3:fr.tmps.getD n undef=.func fn a b)(hf:fn=.func T.cf):execOp fr.eval o=callFunc T.cf (a++c.args.map fr.eval++b):=by unfold execOp;rw[h1];simp only[resolve,h2,Frame.eval,h3,Deferred.ofValue];subst hf;rfl
theorem wJ(h1:o.op=.call c)(h2:c.callee=.value (.tmp n))(h3:∀fn a b,fr.tmps.getD n undef≠.func fn a b){nx:Next}:(execOp fr.eval o).runT P w #[]≠(.ok nx w',es):=by
 intro h;unfold execOp at h;rw[h1]at h;simp only[resolve,h2,Frame.eval]at h;have key:∀v:Value,(∀fn a b,v≠.func fn a b)->¬Sem.runT P (do let d <-Deferred.ofValue v (c.args.map fr.eval);invoke d.target d.args) w #[]=(.ok nx w',es):=by
  intro v hv h;cases v with
  |func fn a b=>exact hv fn a b rfl
  |nilFunc=>
   have e:(do let d <-Deferred.ofValue .nilFunc (c.args.map fr.eval);invoke d.target d.args)=(runtimePanic .nilDeref:Sem Next):=rfl;rw[e]at h;have:=(zW (Q:=fun _=>False)).out h;exact this
  |_=>cases h
 exact key _ h3 h
theorem zO(h1:o.op=.defer c)(h2:c.callee=.value (.func f))(es:Array Event):(execOp fr.eval o).runT P w es=(.ok (.defer {target:=.fn (.func f) #[],args:=#[]++c.args.map fr.eval}) w,es):=by unfold execOp;rw[h1];simp only[resolve,h2,Frame.eval,Deferred.ofValue];rfl
theorem wK{x:Deferred}(h:s.runT P w #[]=(.ok (.spawn x) w',es))(cs:List Frame):uj (stepG.apply P true fr cs none s w):=by simp only[stepG.apply,if_true,h];refine uj.after ?_ _;repeat' (first|exact ox ..|exact .inr (.inr ⟨_,_,_,_,rfl⟩)|split)
theorem Tz(h1:o.op=.go c):gG (fun n=>∃x,n=Next.spawn x) (execOp fr.eval o):=by unfold execOp;rw[h1];exact iW _ fun _=>.pure ⟨_,rfl⟩
theorem wI{r:Operand}{s:String}(h1:o.op=.call c)(h2:c.callee=.invoke r s):execOp fr.eval o=callMethod (fr.eval r) s (c.args.map fr.eval):=by
 unfold execOp;rw[h1];simp only[resolve,h2];have key:∀(v:Value) (asq:Array Value),invoke (.fn (.method s) #[]) (#[v]++asq)=callMethod v s asq:=by
  intro v asq;have e1:(#[v]++asq)[0]?=some v:=by simp[Array.getElem?_append]
  have e2:(#[v]++asq).extract 1 (#[v]++asq).size=asq:=by
   apply Array.ext
   ·simp
   ·intro j h1 h2;simp
  simp only[invoke,e1,e2]
 exact key _ _
theorem DL(hT:gY P T){s:String}(hs:T.Ja s=true){v:Value}{args:Array Value}{n:Next}(h:(callMethod v s args).runT P w #[]=(.ok n w',es)):
 ∃f args',n=.enter f args'/\T.j8 f 0=some 0/\T.vY f= []/\∀g d,deafBehind d (seen P g es)=d:=by
 cases v with
 |iface t x=>
  have e0:callMethod (.iface t x) s args=(do let (f,receiver)<-method ((<-program).types.size+Made.depth) t x s;callFunc f (#[receiver]++args)):=rfl;rw[e0,fS]at h;have e1:program.runT P w #[]=(.ok P w,#[]):=rfl;rw[e1]at h;simp only at h;rw[fS]at h;obtain⟨r,xN,hr⟩:∃r e,(method (P.types.size+Made.depth) t x s).runT P w #[]=(r,e):=⟨_,_,rfl⟩
  rw[hr]at h;cases r with
  |halt hh w1=>cases h
  |ok fx w1=>
   obtain⟨f,rc⟩:=fx;simp only at h;obtain⟨g1,g2⟩:=hT.Ja s f hs (oy _ hr);obtain⟨fn,c,q1,q2,q3,_⟩:=hT.j8 f 0 0 g1;rw[fP q1 q2 q3]at h;cases h;exact⟨f,_,rfl,g1,g2,fun g d=>deaf_good (B7 ..) hr d⟩
 |nilIface=>
  have:=(zW (Q:=fun _=>False)).out h;exact this.elim
 |_=>cases h
end
end
section
open Go Go.Conc
section
variable {P:Program}{T:gI}{d out:Nat}{fr:Frame}{cs1:List Frame}{w:World}
theorem Jx(hT:gY P T)(hf:rI T fr out)(hr:m9 T d fr out)(hw:Wt T fr.kind out cs1)(hm:fr.mode=.run)(hs:∀cs,stepG P true (G fr cs) w=stepG.apply P true fr cs none s w)(hh:s.runT P w #[]=(.halt h w',es)):kF P T d fr cs1 w\/zX P fr cs1 w:=by
 rcases zL (fr:=fr) hT.nG hf.kind hh with⟨e,es',he,hg⟩|⟨w2,hg⟩|hg
 ·exact .inl (Gj hf hw hm he fun cs=>(hs _).trans (hg _))
 ·refine .inl ⟨fr,cs1,w2,#[],d,fun cs=>(hs _).trans (hg _),⟨out,⟨hf,?_⟩,hw⟩,fun h=>⟨h,rfl⟩⟩;unfold gQ;rw[hm];exact hr
 ·refine .inr fun cs=>?_;rw[hs];exact hg _
theorem TA(hT:gY P T)(hf:rI T fr out)(hr:m9 T d fr out)(hw:Wt T fr.kind out cs1)(hm:fr.mode=.run)(hop:WQ fr)(w:World):kF P T d fr cs1 w\/zX P fr cs1 w:=by
 obtain⟨ops,i,is,k,ht⟩:=hop;obtain⟨s,X,qT,tN,hk⟩:=hr.ok;rw[ht]at hk;cases ho:ops[i]? with
 |none=>
  refine .inl (kO hf hr hw hm ht qT tN (Xh hk ho) undef (fun _ _ _=>fj) (fun cs=>jM hf hm ht (by rw[ho];rfl) _) rfl)
 |some o=>
  obtain⟨s1,h1,h2,h3⟩:=Qd hk ho;cases Kw:Region.wanted o (yielded ops fr.tmps)with
  |false=>
   have e:s1=s:=by
    rcases h2 with h2|h2
    ·unfold Region.wanted at Kw;rw[h2]at Kw;cases Kw
    ·exact h2
   subst e;exact .inl (kO hf hr hw hm ht qT tN h3 undef (fun _ _ _=>fj) (fun cs=>jM hf hm ht (by rw[ho];exact Kw) _) rfl)
  |true=>
   have hs:∀cs,stepG P true (G fr cs) w=stepG.apply P true fr cs none (execOp fr.eval o) w:=fun cs=>Ca hf hm ht ho Kw cs;have e:∃r es,(execOp fr.eval o).runT P w #[]=(r,es):=⟨_,_,rfl⟩
   obtain⟨r,es,hrun⟩:=e;cases r with
   |halt h w'=>exact Jx hT hf hr hw hm hs hrun
   |ok n w'=>
    have val:∀v,n=.value v->s1 / 2=s / 2->deafBehind d (seen P fr.fn es)=s1 % 2->(T.wr fr.fn o=true->vD T v)->kF P T d fr cs1 w\/zX P fr cs1 w:=fun v hn e2 hd hc=>by subst hn;left;exact kO hf hr hw hm ht rfl (e2.trans tN) h3 v (fun o' ho' hw'=>by rw[ho]at ho';cases ho';exact hc hw') (fun cs=>(hs _).trans ((uq hf ht _).1 v hrun)) hd
    have skp:n=.skip->s1 / 2=s / 2->deafBehind d (seen P fr.fn es)=s1 % 2->kF P T d fr cs1 w\/zX P fr cs1 w:=fun hn e2 hd=>by subst hn;left;exact kO hf hr hw hm ht rfl (e2.trans tN) h3 undef (fun _ _ _=>fj) (fun cs=>(hs _).trans ((uq hf ht _).2.1 hrun)) hd
    have plain:qE o.op=true->s1=s->(∀v,n=.value v->T.wr fr.fn o=true->vD T v)->kF P T d fr cs1 w\/zX P fr cs1 w:=fun hp e hc=>by
     have hd:=deaf_good (f:=fr.fn) (xP (ρ:=fr.eval) hp) hrun d;rcases(MN (ρ:=fr.eval) hp).out hrun with⟨v,hv⟩|hv
     ·exact val v hv (by rw[e]) (by rw[hd,e,qT]) (hc v hv)
     ·exact skp hv (by rw[e]) (by rw[hd,e,qT])
    have ent:∀f b args,n=.enter f args->deafBehind d (seen P fr.fn es)=d->T.j8 f d=some b->s1 % 2=b->s1 / 2=s / 2->T.wr fr.fn o=false->(∀m∈T.vY f,vD T (args.getD m undef))->kF P T d fr cs1 w\/zX P fr cs1 w:=fun f b args hn UJ hi hb e2 zY ha=>by subst hn;exact .inl ⟨Frame.enter P f args .normal,fr :: cs1,w',seen P fr.fn es,d,fun cs=>(hs _).trans ((uq hf ht _).2.2.2 f args hrun),MO hT hf hr hw hm ht ho zY hi hb (e2.trans tN) h3 args ha,fun h=>⟨fun c hc=>h c (zbf _ hc),UJ⟩⟩
    have aby:∀f b args,T.j8 f d=some b->s1 % 2=b->s1 / 2=s / 2->T.wr fr.fn o=false->(∀m∈T.vY f,vD T (args.getD m undef))->execOp fr.eval o=callFunc f args->kF P T d fr cs1 w\/zX P fr cs1 w:=fun f b args hi hb e2 zY ha he=>by obtain⟨fn,c,g1,g2,g3,_⟩:=hT.j8 f d b hi;have jo:=hrun;rw[he,fP g1 g2 g3]at jo;cases jo;exact ent f b args rfl rfl hi hb e2 zY ha
    unfold gI.S5 at h1;cases hop:o.op with
    |call c=>
     rw[hop]at h1;simp only at h1;split at h1
     ·cases h1
     ·rename_i zY;have zY:T.wr fr.fn o=false:=by simpa using zY
      have vx:∀v,n=.value v->s1 / 2=s / 2->deafBehind d (seen P fr.fn es)=s1 % 2->kF P T d fr cs1 w\/zX P fr cs1 w:=fun v hn e2 hd=>val v hn e2 hd fun hh=>by rw[zY]at hh;cases hh
      cases hc:c.callee with
      |invoke r nm=>
       rw[hc]at h1;simp only at h1;split at h1
       ·rename_i hh;obtain⟨hme,rfl⟩:=hh;cases h1;have jo:=hrun;rw[wI hop hc]at jo;obtain⟨f,args,hn,hi,uH,hd⟩:=DL hT hme jo;have hd0:d=0:=qT.symm;subst hd0;exact ent f 0 args hn (hd _ _) hi rfl rfl zY (by rw[uH];intro m hm;cases hm)
       ·cases h1
      |builtin b=>
       rw[hc]at h1;simp only at h1;split at h1
       ·rename_i hb;cases h1;have jo:=hrun;rw[uk hop hc]at jo;have hd:=deaf_good (f:=fr.fn) (I7 hb ..) jo d;rcases(DN hb ..).out jo with⟨v,hv⟩|hv
        ·exact vx v hv rfl (hd.trans qT.symm)
        ·exact skp hv rfl (hd.trans qT.symm)
       ·cases h1
      |value x=>
       cases x with
       |tmp m=>
        rw[hc]at h1;simp only at h1;split at h1
        ·rename_i hh;obtain⟨hm1,rfl⟩:=hh;cases h1;have hd0:d=0:=qT.symm;subst hd0;have uH:=hr.vY m (by simpa using hm1);cases hv:fr.tmps.getD m undef with
         |func fn a b=>
          have hfn:=uH fn a b hv;exact aby T.cf 0 _ hT.cf.1 rfl rfl zY (by rw[hT.cf.2];intro m hm;cases hm) (F6 hop hc hv hfn)
         |_=>exact absurd hrun (wJ hop hc (fun fn a b=>by rw[hv];intro h;cases h))
        ·cases h1
       |func f=>
        rw[hc]at h1;simp only at h1;split at h1
        ·rename_i agh;have hex:=B9 (fr:=fr) (o:=o) hop hc;have jo:=hrun;rw[hex]at jo;obtain⟨e,yM,h1⟩:=Option.bind_eq_some_iff.1 h1;have he2:e<2:=by
          by_cases hx:e<2
          ·exact hx
          ·rw[if_neg hx]at h1;cases h1
         rw[if_pos he2]at h1;cases h1;have q1:(e+2*(s / 2))% 2=e:=by omega
         have q2:(e+2*(s / 2))/ 2=s / 2:=by omega
         rw[qT]at yM;unfold gI.fD at yM;split at yM
         ·rename_i Qb;subst Qb;obtain⟨⟨v,hv⟩,hd⟩:=hT.Nk _ _ _ _ _ jo;exact vx v hv q2 (by rw[hd,q1];cases yM;rfl)
         ·split at yM
          ·rename_i _ Qb;subst Qb;obtain⟨v,xK,hx,hd⟩:=hT.en (c.args.map fr.eval) w;rw[hx]at jo;cases jo;split at yM
           ·cases yM
           ·exact vx v rfl q2 (by rw[hd,q1];cases yM;rfl)
          ·split at yM
           ·rename_i hx;obtain⟨⟨v,hv⟩,hd⟩:=hT.ext f hx _ _ _ _ _ jo;exact vx v hv q2 (by rw[hd,q1];cases yM;rfl)
           ·refine aby f e _ yM q1 q2 zY (fun m hm=>?_) hex;have:=List.all_eq_true.1 agh m hm;rw[Array.getD_eq_getD_getElem?,Array.getElem?_map];cases hq:c.args[m]? with
            |none=>exact fj
            |some x=>
             rw[hq]at this;simp only[Option.map_some,Option.getD_some]at this⊢;cases x with
             |tmp t=>exact hr.vY t (by simpa[gI.kG]using this)
             |func g=>
              intro fn a' c' he;simp only[Frame.eval,Value.func.injEq]at he;have hg:g=T.cf:=by simpa[gI.kG]using this
              rw[<-he.1,hg]
             |_=>simp[gI.kG]at this
        ·cases h1
       |_=>rw[hc]at h1;cases h1
    |go c=>
     obtain⟨x,rfl⟩:=(Tz (fr:=fr) hop).out hrun;refine .inr fun cs=>?_;rw[hs];exact wK hrun _
    |defer c=>
     rw[hop]at h1;simp only at h1;cases hc:c.callee with
     |value x=>
      cases x with
      |func f=>
       rw[hc]at h1;simp only at h1;split at h1
       ·cases h1
       rename_i zY;have jo:=zO (fr:=fr) (P:=P) (w:=w) hop hc #[];have more:∀(ds:List Deferred),ds={target:=.fn (.func f) #[],args:=#[]++c.args.map fr.eval}:: fr.defers->rI T {fr with defers:=ds} out->s1 % 2=d->s1 / 2=oT T {fr with defers:=ds}->kF P T d fr cs1 w:=by intro ds hds hf' e1 e2;obtain⟨m1,m2⟩:=wO (fr:={fr with defers:=ds}) ht undef;refine⟨({fr with defers:=ds}:Frame).finish undef,cs1,w,seen P fr.fn #[],d,fun cs=>(hs _).trans (by rw[hds];exact(uq hf ht _).2.2.1 _ jo),⟨out,⟨hf'.finish ht undef,?_⟩,by rw[m2];exact hw⟩,fun h=>⟨h.top (fun ch he=>by rw[hm]at he;cases he),rfl⟩⟩;have m3:=m1.trans hm;unfold gQ;rw[m3];rw[qH (fr:={fr with defers:=ds}) ht];exact⟨zZ hr.vY undef (fun _ _ _=>fj),s1,X,e1,e2,h3⟩
       split at h1
       ·rename_i mI;split at h1
        ·rename_i Qb;cases h1;left;refine more _ rfl ⟨hf.round,fun x hx=>?_,hf.kind,hf.j8,.inl mI⟩ (by omega) ?_
         ·rcases zbg.1 hx with rfl|hx
          ·exact⟨#[],by simp only[mI,if_true,Qb]⟩
          ·exact hf.EF x hx
         ·have:oT T fr=fr.defers.length:=by unfold oT;rw[if_pos mI]
          rw[this]at tN;unfold oT;simp only[mI,if_true,List.length_cons];omega
        ·cases h1
       ·rename_i mI;split at h1
        ·rename_i hh;obtain⟨Qb,hz⟩:=hh;cases h1;have hout:out=0:=by
          obtain⟨a,ha⟩:=hf.j8;have h2:=hT.two _ _ _ ha;rcases Nat.lt_or_ge a 1 with h3|h3
          ·obtain rfl:a=0:=by omega
           rw[hz.1]at ha;cases ha;rfl
          ·obtain rfl:a=1:=by omega
           rw[hz.2]at ha;cases ha
         left;refine more _ rfl ⟨hf.round,fun x hx=>?_,hf.kind,hf.j8,.inr (.inr hout)⟩ qT ?_
         ·rcases zbg.1 hx with rfl|hx
          ·exact⟨#[],by simp only[mI,Bool.false_eq_true,if_false,Qb]⟩
          ·exact hf.EF x hx
         ·unfold oT at tN⊢;rw[if_neg mI]at tN;simp only[mI,Bool.false_eq_true,if_false];exact tN
        ·cases h1
      |_=>rw[hc]at h1;cases h1
     |_=>rw[hc]at h1;cases h1
    |move x=>
     rw[hop]at h1;simp only at h1;split at h1
     ·cases h1
     ·rename_i hh;refine plain (by rw[hop];rfl) (by cases h1;rfl) fun v hv zY=>?_;have hx:T.kG fr.fn x=true:=by
       cases hq:T.kG fr.fn x with
       |true=>rfl
       |false=>exact absurd ⟨zY,hq⟩ hh
      have he:v=fr.eval x:=by unfold execOp at hrun;rw[hop]at hrun;cases hrun;cases hv;rfl
      subst he;cases x with
      |tmp t=>exact hr.vY t (by simpa[gI.kG]using hx)
      |func g=>
       intro fn a' c' he;simp only[Frame.eval,Value.func.injEq]at he;have hg:g=T.cf:=by simpa[gI.kG]using hx
       rw[<-he.1,hg]
      |_=>simp[gI.kG]at hx
    |assign x=>
     rw[hop]at h1;simp only at h1;split at h1
     ·cases h1
     ·rename_i hh;refine plain (by rw[hop];rfl) (by cases h1;rfl) fun v hv zY=>?_;have hx:T.kG fr.fn x=true:=by
       cases hq:T.kG fr.fn x with
       |true=>rfl
       |false=>exact absurd ⟨zY,hq⟩ hh
      have he:v=fr.eval x:=by unfold execOp at hrun;rw[hop]at hrun;cases hrun;cases hv;rfl
      subst he;cases x with
      |tmp t=>exact hr.vY t (by simpa[gI.kG]using hx)
      |func g=>
       intro fn a' c' he;simp only[Frame.eval,Value.func.injEq]at he;have hg:g=T.cf:=by simpa[gI.kG]using hx
       rw[<-he.1,hg]
      |_=>simp[gI.kG]at hx
    |makeFunc fn a b=>
     rw[hop]at h1;simp only at h1;split at h1
     ·cases h1
     ·rename_i hh;refine plain (by rw[hop];rfl) (by cases h1;rfl) fun v hv zY=>?_;have he:v=.func fn (a.map fr.eval) (b.map fr.eval):=by unfold execOp at hrun;rw[hop]at hrun;cases hrun;cases hv;rfl
      subst he;intro fn' a' c' he;cases he;cases fn with
      |func f=>
       have:f=T.cf:=by
        cases hq:f == T.cf with
        |true=>simpa using hq
        |false=>exact absurd ⟨zY,hq⟩ hh
       rw[this]
      |_=>exact absurd ⟨zY,rfl⟩ hh
    |_=>
     rw[hop]at h1;simp only at h1;split at h1
     ·rename_i hh;exact plain (by rw[hop];exact hh.1) (by cases h1;rfl) fun v hv zY=>by rw[hh.2]at zY;cases zY
     ·cases h1
end
end
section
open Go Go.Conc
section
variable {P:Program}{T:gI}{d out:Nat}{fr:Frame}{cs1:List Frame}{w:World}
theorem z4(c:Frame)(v:Value):(c.finish v).fn=c.fn/\(c.finish v).defers=c.defers/\(c.finish v).mode=c.mode/\(c.finish v).kind=c.kind/\(c.finish v).roundOf=c.roundOf:=by unfold Frame.finish;split<;>exact⟨rfl,rfl,rfl,rfl,rfl⟩
theorem rI.fin{c:Frame}(h:rI T c out)(v:Value):rI T (c.finish v) out:=by obtain⟨e1,e2,e3,e4,e5⟩:=z4 c v;exact⟨by rw[e5];exact h.round,by rw[e2,e1];exact h.EF,by rw[e4];exact h.kind,by rw[e1];exact h.j8,by rw[e2,e1];exact h.Xi⟩
theorem rI.rai{c:Frame}(h:rI T c out)(ch:List PanicEntry):rI T (c.raise ch) out:=by unfold Frame.raise;split<;>exact⟨h.round,h.EF,h.kind,h.j8,h.Xi⟩
def Leave(fr:Frame)(cs1:List Frame):Prop:=cs1= []/\fr.mode≠.run/\fr.defers= []
theorem Gl(hT:gY P T)(hf:rI T fr out)(hmo:gQ T d fr out)(hw:Wt T fr.kind out cs1)(hm:fr.mode≠.run)(w:World):kF P T d fr cs1 w\/zX P fr cs1 w\/Leave fr cs1:=by
 have hu:∀cs,stepG P true (G fr cs) w=unwind P true fr cs none w:=fun cs=>by simp only[stepG,G]
 obtain⟨a0,Qe⟩:=hf.j8;obtain⟨fn0,c0,g1,g2,g3,_⟩:=hT.j8 _ _ _ Qe;cases hd:fr.defers with
 |cons x ds=>
  left;obtain⟨cap,hx⟩:=hf.EF x (by rw[hd];exact zbh ..);by_cases mI:T.den fr.fn=true
  ·rw[if_pos mI]at hx;obtain⟨v,es,q9,UJ⟩:=hT.en (x.args++cap) w;have hstep:∀cs,stepG P true (G fr cs) w=.go (G {fr with defers:=ds} cs) w (seen P fr.fn es):=fun cs=>by rw[hu];unfold unwind;rw[hd];obtain⟨tg,ar⟩:=x;obtain rfl:tg=.fn (.func T.en) cap:=hx;simp only[callDeferred];have e1:(invoke (.fn (.func T.en) cap) ar).runT P w #[]=(.ok (.value v) w,es):=q9;simp only[e1,Bool.false_and,Bool.false_eq_true,if_false,GStep.after,Array.append_empty];rfl
   have Xj:oT T fr=ds.length+1:=by unfold oT;rw[if_pos mI,hd];rfl
   have aiv:oT T {fr with defers:=ds}=ds.length:=by unfold oT;simp only[mI,if_true]
   refine⟨{fr with defers:=ds},cs1,w,seen P fr.fn es,d-1,fun cs=>hstep _,⟨out,⟨⟨hf.round,fun y hy=>hf.EF y (by rw[hd];exact zbf _ hy),hf.kind,hf.j8,.inl mI⟩,?_⟩,hw⟩,fun h=>⟨fun c hc ch he=>?_,UJ _ _⟩⟩
   ·unfold gQ at hmo⊢;simp only;cases um:fr.mode with
    |run=>exact absurd um hm
    |returning=>
     rw[um]at hmo;have JA:d=out+oT T fr:=hmo;show d-1=out+oT T _;rw[Xj]at JA;have e3:∀q:FrameMode,oT T {fr with defers:=ds,mode:=q}=ds.length:=fun q=>by unfold oT;simp only[mI,if_true]
     rw[e3];omega
    |panicking ch=>rw[um]at hmo;exact hmo
   ·rcases zbg.1 hc with rfl|hc
    ·exact h {c with defers:=ds} (zbh ..) ch he
    ·exact h c (zbf _ hc) ch he
  rw[if_neg mI]at hx;have hout:out=0:=by
   rcases hf.Xi with h|h|h
   ·exact absurd h mI
   ·rw[hd]at h;cases h
   ·exact h
  subst hout;have Xj:oT T fr=0:=by unfold oT;rw[if_neg mI]
  obtain⟨fn,c,q1,q2,q3,r,q4,q5⟩:=hT.j8 _ _ _ hT.Cb.1;have hstep:∀cs,stepG P true (G fr cs) w=.go (G (Frame.enter P T.Cb (x.args++cap) .deferred) ({fr with defers:=ds}:: cs)) w #[]:=fun cs=>by rw[hu];unfold unwind;rw[hd];obtain⟨tg,ar⟩:=x;obtain rfl:tg=.fn (.func T.Cb) cap:=hx;simp only[callDeferred];have e1:(invoke (.fn (.func T.Cb) cap) ar).runT P w #[]=(.ok (.enter T.Cb (ar++cap)) w,#[]):=fP q1 q2 q3 _ _ _;simp only[e1,Bool.false_and,Bool.false_eq_true,if_false];rfl
  have hf':rI T {fr with defers:=ds} 0:=⟨hf.round,fun x hx=>hf.EF x (by rw[hd];exact zbf _ hx),hf.kind,hf.j8,.inr (.inr rfl)⟩
  refine⟨_,{fr with defers:=ds}:: cs1,w,#[],0,fun cs=>hstep _,⟨0,⟨⟨rfl,(fun x hx=>by simp[Frame.enter]at hx),.inr rfl,⟨0,hT.Cb.1⟩,.inr (.inl rfl)⟩,?_⟩,0,hf',hw,.inr ⟨rfl,hm,?_⟩⟩,fun h=>⟨fun c hc ch he=>?_,?_⟩⟩
  ·show m9 T 0 _ 0;refine⟨fun n hn=>?_,0, [],rfl,?_,?_⟩
   ·rw[show (Frame.enter P T.Cb (x.args++cap) CallKind.deferred).fn=T.Cb from rfl,hT.Cb.2]at hn;cases hn
   ·unfold oT;split<;>rfl
   ·show oR T T.Cb 0 [.code _] 0 [];rw[q1];simp only[Option.bind_some,q3,Option.getD_some];exact⟨r,q4,rfl,fun e he=>⟨q5 e he,rfl⟩⟩
  ·unfold gQ at hmo⊢;simp only;cases um:fr.mode with
   |run=>exact absurd um hm
   |returning=>
    show (0:Nat)=0+oT T _;have e3:∀q:FrameMode,oT T {fr with defers:=ds,mode:=q}=0:=fun q=>by unfold oT;rw[if_neg mI]
    rw[e3]
   |panicking ch=>rw[um]at hmo;exact hmo
  ·rcases zbg.1 hc with rfl|hc
   ·exact h {c with defers:=ds} (zbf _ (zbh ..)) ch he
   ·exact h c (zbf _ (zbf _ hc)) ch he
  ·unfold gQ at hmo;cases um:fr.mode with
   |run=>exact absurd um hm
   |returning=>
    rw[um]at hmo;have JA:d=0+oT T fr:=hmo;rw[Xj]at JA;exact JA
   |panicking ch=>exact absurd um (h {fr with defers:=ds} (zbf _ (zbh ..)) ch)
 |nil=>
  cases cs1 with
  |nil=>exact .inr (.inr ⟨rfl,hm,hd⟩)
  |cons c rest=>
   obtain⟨out',Ld,Xq,iF⟩:=hw;cases um:fr.mode with
   |run=>exact absurd um hm
   |panicking ch=>
    left;unfold gQ at hmo;rw[um]at hmo;have yA:fr.catches P=false:=by unfold Frame.catches;rw[g1]
    have hk:(c.raise ch).kind=c.kind:=by unfold Frame.raise;split<;>rfl
    have agi:∃ch',(c.raise ch).mode=.panicking ch'/\∀e∈ch',e.recovered=false:=by
     unfold Frame.raise;split
     ·rename_i ch' Ay;refine⟨_,rfl,fun e he=>?_⟩;rcases List.mem_append.1 he with he|he
      ·exact hmo e he
      ·rcases iF with⟨_,h2,_⟩|⟨_,_,h3⟩
       ·rw[Ay]at h2;cases h2
       ·unfold gQ at h3;rw[Ay]at h3;exact h3 e he
     ·exact⟨_,rfl,hmo⟩
    obtain⟨ch',hp1,Rp⟩:=agi;refine⟨c.raise ch,rest,w,#[],d,fun cs=>?_,⟨out',⟨Ld.rai ch,?_⟩,by rw[hk];exact Xq⟩,fun h=>absurd hp1 (h _ (zbh ..) ch')⟩
    ·rw[hu];unfold unwind;rw[hd];simp only[um,yA,Bool.false_eq_true,if_false,List.cons_append];rfl
    ·unfold gQ;rw[hp1];exact Rp
   |returning=>
    unfold gQ at hmo;rw[um]at hmo;have abz:oT T fr=0:=by unfold oT;rw[hd];split<;>rfl
    obtain rfl:d=out:=by have JA:d=out+oT T fr:=hmo;rw[abz]at JA;exact JA
    have e0:∃r es,(results fn0 fr.tmps).runT P w #[]=(r,es):=⟨_,_,rfl⟩
    obtain⟨r,es,hrun⟩:=e0;cases r with
    |halt h w'=>
     refine .inr (.inl fun cs=>.inl ?_);rw[hu];unfold unwind;rw[hd];simp only[um,g1,hrun];cases h<;>exact⟨_,_,_,rfl⟩
    |ok v w'=>
     left;have UJ:=deaf_good (f:=fr.fn) (I9 fn0 fr.tmps) hrun d;have Qf:∀cs,stepG P true (G fr cs) w=(doReturn P true fr cs none v w').after (seen P fr.fn es):=fun cs=>by rw[hu];unfold unwind;rw[hd];simp only[um,g1,hrun]
     rcases iF with⟨hk,hcm,hrv⟩|⟨hk,hcm,F7⟩
     ·obtain⟨e1,e2,e3,e4,e5⟩:=z4 c v;refine⟨c.finish v,rest,w',seen P fr.fn es,d,fun cs=>?_,⟨out',⟨Ld.fin v,?_⟩,by rw[e4];exact Xq⟩,fun h=>⟨fun c' Ay ch he=>?_,UJ⟩⟩
      ·rw[Qf];simp only[List.cons_append,doReturn,hk,GStep.after,Array.append_empty];rfl
      ·unfold gQ;rw[e3,hcm];exact hrv v
      ·rcases zbg.1 Ay with rfl|Ay
       ·rw[um]at he;cases he
       ·rcases zbg.1 Ay with rfl|Ay
        ·rw[hcm]at he;cases he
        ·exact h c' (zbf _ Ay) ch he
     ·refine⟨c,rest,w',seen P fr.fn es,d,fun cs=>?_,⟨out',⟨Ld,F7⟩,Xq⟩,fun h=>⟨fun c' Ay ch he=>?_,UJ⟩⟩
      ·rw[Qf];simp only[List.cons_append,doReturn,hk];split
       ·rename_i v' g' older GU;unfold gQ at F7;rw[GU]at F7;have:=F7 _ (zbh ..);simp at this
       ·simp only[GStep.after,Array.append_empty];rfl
      ·rcases zbg.1 Ay with rfl|Ay
       ·rw[um]at he;cases he
       ·exact h c' Ay ch he
theorem zn(hT:gY P T)(h:AG T d fr cs1)(w:World):kF P T d fr cs1 w\/zX P fr cs1 w\/QD T fr\/Leave fr cs1:=by
 obtain⟨out,⟨hf,hmo⟩,hw⟩:=h;by_cases hm:fr.mode=.run
 ·have hr:m9 T d fr out:=by unfold gQ at hmo;rw[hm]at hmo;exact hmo
  rcases QE (P:=P) hf hr hw hm w with h|h|h|h
  ·exact .inl h
  ·exact .inr (.inl h)
  ·exact .inr (.inr (.inl h))
  ·exact(TA hT hf hr hw hm h w).imp id .inl
 ·exact(Gl hT hf hmo hw hm w).imp id (Or.imp id .inr)
end
end
section
open Go Go.Conc
section
variable {P:Program}{T:gI}
theorem xp(h:stepG P true a w=.ended o w' es):(runT P (solo a w) 0).1=.ended o w':=by simp[runT,solo,Array.swapAt!,Array.swapAt,h,GStep.es]
theorem gA(hs:a.status=.running)(h:stepG P true a w=.ended o w' es):step P (solo a w)=.ended o w':=by rw[step,stepT_solo hs,xp h]
theorem endWith_ended(w:World)(n:Nat)(b:ByteArray)(o:Outcome):∃o' w' es,endWith w n b o=.ended o' w' es:=by unfold endWith;dsimp only;repeat' (first|exact⟨_,_,_,rfl⟩|split)
theorem DO(hs:a.status=.blocked):∃o w',step P (solo a w)=.ended o w':=by
 have h1:runnable (solo a w).gs (solo a w).world.os.mono= []:=by simp[solo,runnable_eq,Goroutine.canRun,List.range_succ,hs]
 unfold step stepT move;simp only[solo]at h1⊢;simp[ask,askOn,h1,due,ahead,pure,hs];obtain⟨o,w',es,he⟩:=endWith_ended w 2 (bytes ("fatal error: all goroutines are asleep - deadlock!\n")) (.fatal "all goroutines are asleep - deadlock!");rw[he];exact⟨_,_,rfl⟩
theorem DQ(hs:a.status=.waiting):step P (solo a w)=.next (solo a w):=by
 have h1:runnable (solo a w).gs (solo a w).world.os.mono= []:=by simp[solo,runnable_eq,Goroutine.canRun,List.range_succ,hs]
 unfold step stepT move;simp only[solo]at h1⊢;simp[ask,askOn,h1,due,ahead,pure,hs]
theorem DR(fr:Frame)(d:Dying)(f:Fatal)(w:World)(hc:d.calling=false):(∃o w' es,writeOn P fr d f w=.ended o w' es)\/∃g' w' es,writeOn P fr d f w=.go g' w' es/\Cj g':=by
 unfold writeOn;dsimp only;split
 ·exact .inl ⟨_,_,_,rfl⟩
 ·split
  ·exact .inr ⟨_,_,_,rfl,.inr (.inr ⟨rfl,_,_,rfl,hc,rfl⟩)⟩
  ·exact .inr ⟨_,_,_,rfl,.inl rfl⟩
  ·exact .inl ⟨_,_,_,rfl⟩
  ·exact .inl ⟨_,_,_,rfl⟩
theorem MP{m:Machine}(h:Cj g)(hs:step P (solo g w)=.next m):∃g' w',m=solo g' w'/\Cj g':=by
 rcases h with h|h|⟨h,d,f,h1,h2,h3⟩
 ·obtain⟨o,w',he⟩:=DO (P:=P) (w:=w) h;rw[he]at hs;cases hs
 ·rw[DQ h]at hs;cases hs;exact⟨g,w,rfl,.inr (.inl h)⟩
 ·have e:stepG P true g w=writeOn P g.frame d f w:=by obtain⟨fr,cs,st,dy,off⟩:=g;obtain⟨todo,texts,calling,pending,re,hand,fatal⟩:=d;simp only at h1 h2 h3;subst h1 h2 h3;rfl
  rcases DR (P:=P) g.frame d f w h2 with⟨o,w',es,he⟩|⟨g',w',es,he,hd⟩
  ·rw[gA h (e.trans he)]at hs;cases hs
  ·rw[step_solo_go h (e.trans he)]at hs;cases hs;exact⟨g',w',rfl,hd⟩
theorem sI:∀(n:Nat) {g:Goroutine} {w:World} {fr:Frame} {cs:List Frame} {w':World},Cj g->runN P n (solo g w)≠.next (lone fr cs w')
 | 0,g,w,fr,cs,w',h,hr=>by
   rw[lone_eq_solo]at hr;simp only[runN,Stepped.next.injEq,solo,Machine.mk.injEq,Array.mk.injEq,List.cons.injEq,and_true]at hr;obtain⟨_,rfl⟩:=hr;rcases h with h|h|⟨_,d,f,h1,_⟩
   ·cases h
   ·cases h
   ·cases h1
 |n+1,g,w,fr,cs,w',h,hr=>by
  unfold runN at hr;cases hs:step P (solo g w)with
  |ended o w2=>rw[hs]at hr;cases hr
  |next m=>
   rw[hs]at hr;obtain⟨g',w2,rfl,hd⟩:=MP h hs;exact sI n hd hr
theorem sJ:∀(n:Nat) {m:Machine} {fr:Frame} {cs:List Frame} {w':World},1<m.gs.size->runN P n m≠.next (lone fr cs w')
 | 0,m,fr,cs,w',h,hr=>by simp only[runN,Stepped.next.injEq]at hr;subst hr;simp[lone]at h
 |n+1,m,fr,cs,w',h,hr=>by
  unfold runN at hr;cases hs:step P m with
  |ended o w2=>rw[hs]at hr;cases hr
  |next m2=>
   rw[hs]at hr;exact sJ n (Nat.lt_of_lt_of_le h (stepT_size P m m2 true hs)) hr
inductive LR(P:Program):Frame->List Frame->World->List (FuncId×String×Array Event)->Frame->List Frame->World->Prop
 |refl {fr:Frame} {c:List Frame} {w:World}:LR P fr c w [] fr c w
 |step {fr gC fr':Frame} {c c1 c':List Frame} {w w1 w':World} {es:Array Event} {l:List (FuncId×String×Array Event)}:(∀cs,stepG P true (G fr (c++cs)) w=.go (G gC (c1++cs)) w1 es)->LR P gC c1 w1 l fr' c' w'->LR P fr c w ((fr.fn,fr.place,es):: l) fr' c' w'
def abA(d:Nat)(l:List (FuncId×String×Array Event)):Nat:=l.foldl (fun d x=>deafBehind d x.2.2) d
def cQ(P:Program):Frame:={fn:=P.funcs.size,tmps:=#[undef],todo:= [.call {target:=.nil,args:=#[]} false "fmt's door: nowhere" #[]],defers:= [],mode:=.run,kind:=.normal}
theorem MQ:Extern.next "fmt's door: nowhere" =none:=by kernel_rfl
theorem lH{cs':List Frame}(h:lone fr cs w=lone fr' cs' w'):fr=fr'/\cs=cs'/\w=w':=by simp only[lone,Machine.mk.injEq,Array.mk.injEq,List.cons.injEq,Goroutine.mk.injEq]at h;obtain⟨h1,⟨⟨h2,h3,_⟩,_⟩,_⟩:=h;exact⟨h2,h3,h1⟩
theorem wL(hT:gY P T)(hS:AG T d fr [])(hl:Leave fr []):runN P (n+1) (lone fr [cQ P] w)≠.next (lone fr' (c'++ [cQ P]) w'):=by
 obtain⟨out,⟨hf,hmo⟩,hw⟩:=hS;obtain⟨_,hm,hd⟩:=hl;have hk:fr.kind=.normal:=hw;obtain⟨a0,Qe⟩:=hf.j8;obtain⟨fn0,c0,g1,g2,g3,_⟩:=hT.j8 _ _ _ Qe;intro hr;have over:∀(x:Frame) (w1:World),(∀w,∃o w2 es,stepG P true (G x []) w=.ended o w2 es)->step P (lone fr [cQ P] w)=.next (lone x [] w1)->False:=by
  intro x w1 hx hs;unfold runN at hr;rw[hs]at hr;simp only at hr;cases n with
  |zero=>
   simp only[runN,Stepped.next.injEq]at hr;have:=(lH hr).2.1;simp at this
  |succ n=>
   unfold runN at hr;obtain⟨o,w2,es,he⟩:=hx w1;rw[lone_eq_solo,gA rfl he]at hr;cases hr
 cases um:fr.mode with
 |run=>exact hm um
 |panicking ch=>
  refine over ((cQ P).raise ch) w (fun w=>?_) (by
   rw[lone_eq_solo];refine step_solo_go (es:=#[]) rfl ?_;have yA:fr.catches P=false:=by unfold Frame.catches;rw[g1]
   simp only[stepG,G,um,unwind,hd,yA,Bool.false_eq_true,if_false])
  have yA:((cQ P).raise ch).catches P=true:=by
   have e1:P.funcs[((cQ P).raise ch).fn]?=none:=by show P.funcs[P.funcs.size]?=none;simp
   have e2: "fmt's door: nowhere".startsWith "fmt's door" =true:=by kernel_rfl
   have e3:((cQ P).raise ch).todo= [.call {target:=.nil,args:=#[]} false "fmt's door: nowhere" #[]]:=rfl;unfold Frame.catches;rw[e1,e3];simp only[e2]
  have hx:∃o w2 es,unwind P true ((cQ P).raise ch) [] none w=.ended o w2 es:=by unfold unwind;rw[show ((cQ P).raise ch).defers= []from rfl,show ((cQ P).raise ch).mode=.panicking ch from rfl];simp only[yA,if_true];exact⟨_,_,_,rfl⟩
  exact hx
 |returning=>
  have e0:∃r es,(results fn0 fr.tmps).runT P w #[]=(r,es):=⟨_,_,rfl⟩
  obtain⟨r,es,hrun⟩:=e0;cases r with
  |halt h w1=>
   have he:∃o w2 es,stepG P true (G fr [cQ P]) w=.ended o w2 es:=by simp only[stepG,G,um,unwind,hd,g1,hrun];cases h<;>exact⟨_,_,_,rfl⟩
   obtain⟨o,w2,es,he⟩:=he;unfold runN at hr;rw[lone_eq_solo,gA rfl he]at hr;cases hr
  |ok v w1=>
   refine over ((cQ P).finish v) w1 (fun w=>?_) (by rw[lone_eq_solo];refine step_solo_go (es:=seen P fr.fn es) rfl ?_;simp only[stepG,G,um,unwind,hd,g1,hrun,doReturn,hk,GStep.after,Array.append_empty])
   have hx:∃o w2 es,stepG.exec P true true ((cQ P).finish v) [] none w=.ended o w2 es:=by simp only[cQ,Frame.finish,stepG.exec,MQ,Option.elim];exact⟨_,_,_,rfl⟩
   exact hx
theorem Cd(hT:gY P T){fr':Frame}{c':List Frame}{w':World}(hp:iT fr' c'):∀(n:Nat) {d:Nat} {fr:Frame} {c:List Frame} {w:World},AG T d fr c->
 runN P n (lone fr (c++ [cQ P]) w)=.next (lone fr' (c'++ [cQ P]) w')->
 (∀(k:Nat) (f:Frame) (q:List Frame) (u:World),k<n->runN P k (lone fr (c++ [cQ P]) w)=.next (lone f q u)->¬QD T f)->
 iT fr c/\∃l d',LR P fr c w l fr' c' w'/\AG T d' fr' c'/\abA d l=d'
 | 0,d,fr,c,w,hS,hr,_=>by simp only[runN,Stepped.next.injEq]at hr;obtain⟨rfl,h2,rfl⟩:=lH hr;obtain rfl:c=c':=List.append_cancel_right h2;exact⟨hp, [],d,.refl,hS,rfl⟩
 |n+1,d,fr,c,w,hS,hr,hn=>by
  rcases zn hT hS w with h|h|h|h
  ·obtain⟨gC,c1,w1,es,d1,hs,oN,hd⟩:=h;have hst:step P (lone fr (c++ [cQ P]) w)=.next (lone gC (c1++ [cQ P]) w1):=step_solo_go (a:=G fr (c++ [cQ P])) rfl (hs _)
   have hr':=hr;unfold runN at hr';rw[hst]at hr';obtain⟨hp1,l,d',hl,YJ,hd'⟩:=Cd hT hp n oN hr' (fun k f q u hk hk'=>hn (k+1) f q u (by omega) (by unfold runN;rw[hst];exact hk'));obtain⟨hp0,he⟩:=hd hp1;refine⟨hp0,_,d',.step hs hl,YJ,?_⟩;rw[<-hd',<-he];rfl
  ·exfalso;rcases h [cQ P]with⟨o,w1,es,he⟩|⟨g1,w1,es,he,hg⟩|⟨g1,g2,w1,es,he⟩
   ·unfold runN at hr;rw[lone_eq_solo,gA rfl he]at hr;cases hr
   ·unfold runN at hr;rw[lone_eq_solo,step_solo_go rfl he]at hr;exact sI n hg hr
   ·unfold runN at hr;have e2:step P (lone fr (c++ [cQ P]) w)=.next (duo g1 g2 w1 none):=by rw[lone_eq_solo,step,stepT_solo rfl,runT_solo_spawn he]
    rw[e2]at hr;exact sJ n (by simp[duo]) hr
  ·exact absurd h (hn 0 fr _ w (by omega) rfl)
  ·exfalso;have hc:=h.1;subst hc;exact wL hT hS h hr
end
end
section
open Go Go.Conc
def dE(d:Nat)(e:Event):Nat:=match e.loc with|.mark .disable=>d+1|.mark .enable=>d-1|_=>d
theorem deaf_push(d:Nat)(es:Array Event)(e:Event):deafBehind d (es.push e)=dE (deafBehind d es) e:=by unfold deafBehind;rw[Array.foldl_push];rfl
theorem z5(d:Nat)(es:Array Event)(l:List Addr)(wr sy:Bool):deafBehind d (es++l.toArray.map fun a=>(⟨.cell a,wr,sy⟩:Event))=deafBehind d es:=by
 unfold deafBehind;rw[Array.foldl_append];generalize Array.foldl _ d es=x;rw[<-Array.foldl_toList,List.map_toArray];show List.foldl _ x (l.map fun a=>(⟨.cell a,wr,sy⟩:Event))=x;induction l with
 |nil=>rfl
 |cons a l ih=>simpa using ih
inductive BT{α:Type}:Bool->Sem α->Prop
 |pure {a:α}:BT false (.pure a)
 |load {b:Bool} {m:Mode} {a:Addr} {k:Value->Sem α}:(∀v,BT b (k v))->BT b (.load m a k)
 |store {b:Bool} {m:Mode} {a:Addr} {v:Value} {k:Sem α}:BT b k->BT b (.store m a v k)
 |new {b:Bool} {o:Obj} {k:Nat->Sem α}:(∀r,BT b (k r))->BT b (.new o k)
 |shape {b:Bool} {r:Nat} {k:Option (TypeId×Nat)->Sem α}:(∀s,BT b (k s))->BT b (.shape r k)
 |freeze {b:Bool} {a:Addr} {n:Nat} {k:Sem α}:BT b k->BT b (.freeze a n k)
 |frozen {b:Bool} {a:Addr} {k:Bool->Sem α}:(∀q,BT b (k q))->BT b (.frozen a k)
 |getObj {b:Bool} {r:Nat} {k:Obj->Sem α}:(∀o,BT b (k o))->BT b (.getObj r k)
 |setObj {b:Bool} {r:Nat} {o:Obj} {k:Sem α}:BT b k->BT b (.setObj r o k)
 |choose {b:Bool} {q:Question} {k:Nat->Sem α}:(∀n,BT b (k n))->BT b (.choose q k)
 |sys {b:Bool} {c:Sys} {k:SysRet->Sem α}:(∀r,BT b (k r))->BT b (.sys c k)
 |program {b:Bool} {k:Program->Sem α}:(∀p,BT b (k p))->BT b (.program k)
 |mark {b:Bool} {m:Mark} {k:Sem α}:m≠.disable->m≠.enable->BT b k->BT b (.mark m k)
 |Nk {k:Sem α}:BT true k->BT false (.mark .disable k)
 |en {k:Sem α}:BT false k->BT true (.mark .enable k)
 |halt {b:Bool} {h:Halt}:BT b (.halt h)
theorem NM.bt{α β:Type}{s:Sem α}{f:α->Sem β}(h:NM s)(hf:∀a,BT b (f a)):BT b (s >>= f):=by
 show BT b (s.bind f);induction h with
 |pure=>exact hf _
 |load _ ih=>exact .load fun v=>ih v
 |store _ ih=>exact .store ih
 |new _ ih=>exact .new fun r=>ih r
 |shape _ ih=>exact .shape fun s=>ih s
 |freeze _ ih=>exact .freeze ih
 |frozen _ ih=>exact .frozen fun b=>ih b
 |getObj _ ih=>exact .getObj fun o=>ih o
 |setObj _ ih=>exact .setObj ih
 |choose _ ih=>exact .choose fun n=>ih n
 |sys _ ih=>exact .sys fun n=>ih n
 |program _ ih=>exact .program fun p=>ih p
 |mark h1 h2 _ ih=>exact .mark h1 h2 ih
 |halt=>exact .halt
theorem BT.deaf{α:Type}{s:Sem α}(h:BT b s)(d:Nat):∀{w:World} {es:Array Event} {a:α} {w':World} {es':Array Event},s.runT P w es=(.ok a w',es')->deafBehind d es'=if b then deafBehind d es-1 else deafBehind d es:=by
 have push:∀{es:Array Event} {e:Event},e.loc≠.mark .disable->e.loc≠.mark .enable->deafBehind d (es.push e)=deafBehind d es:=fun h1 h2=>by
  rw[deaf_push];unfold dE;split
  ·rename_i hh;exact absurd hh h1
  ·rename_i hh;exact absurd hh h2
  ·rfl
 induction h with
 |pure=>intro w es a w' es' hr;cases hr;rfl
 |load _ ih=>
  intro w es a w' es' hr;simp only[Sem.runT]at hr;split at hr
  ·rw[ih _ hr,push (by simp) (by simp)]
  ·split at hr
   ·rw[ih _ hr,z5]
   ·cases hr
 |store _ ih=>
  intro w es a w' es' hr;rename_i m c v k _;cases v<;>simp only[Sem.runT]at hr<;>first|(cases hr;done)|(split at hr<;>split at hr<;>first|(cases hr;done)|(rw[ih hr,push (by simp) (by simp)])|(rw[ih hr,z5]))
 |new _ ih=>intro w es a w' es' hr;exact ih _ hr
 |shape _ ih=>intro w es a w' es' hr;exact ih _ hr
 |freeze _ ih=>intro w es a w' es' hr;exact ih hr
 |frozen _ ih=>intro w es a w' es' hr;exact ih _ hr
 |getObj _ ih=>
  intro w es a w' es' hr;simp only[Sem.runT]at hr;split at hr
  ·cases hr
  ·rw[ih _ hr,push (by simp) (by simp)]
  ·cases hr
 |setObj _ ih=>
  intro w es a w' es' hr;simp only[Sem.runT]at hr;split at hr
  ·cases hr
  ·rw[ih hr,push (by simp) (by simp)]
  ·cases hr
 |choose _ ih=>intro w es a w' es' hr;simp only[Sem.runT]at hr;split at hr<;>exact ih _ hr
 |sys _ ih=>intro w es a w' es' hr;rw[ih _ hr,push (by simp) (by simp)]
 |program _ ih=>intro w es a w' es' hr;exact ih _ hr
 |mark h1 h2 _ ih=>intro w es a w' es' hr;rw[ih hr,push (by simpa using h1) (by simpa using h2)]
 |Nk _ ih=>
  intro w es a w' es' hr;rw[ih hr,deaf_push];simp[dE]
 |en _ ih=>
  intro w es a w' es' hr;rw[ih hr,deaf_push];simp[dE]
 |halt=>intro w es a w' es' hr;cases hr
theorem uw(h:∀e∈es,∀m,e.loc=.mark m->e.sync=true)(d:Nat):deafBehind d (seen P f es)=deafBehind d es:=by
 unfold seen;dsimp only;have key:∀(l:List Event) (q:Bool) (kept:Array Event),(∀e∈l,∀m,e.loc=.mark m->e.sync=true)->deafBehind d (l.foldl (fun(x:Bool×Array Event) e=>match x with
  |(q,kept)=>match e.loc with
   |.mark (.extern f)=>((P.funcs[f]?).any (·.norace),kept)
   |_=>(q,if q && !e.sync then kept else kept.push e)) (q,kept)).2=l.foldl dE (deafBehind d kept):=by
  intro l
  induction l with
  |nil=>intro q kept _;rfl
  |cons x l ih=>
   intro q kept hl;have hl':=fun e he=>hl e (zbf _ he);simp only[List.foldl_cons];split
   ·rename_i hh;rw[ih _ _ hl'];congr 1;unfold dE;rw[hh]
   ·rename_i hh;rw[ih _ _ hl'];congr 1;split
    ·rename_i hq;unfold dE;split
     ·rename_i h1;have:=hl x (zbh ..) _ h1;simp[this]at hq
     ·rename_i h1;have:=hl x (zbh ..) _ h1;simp[this]at hq
     ·rfl
    ·rw[deaf_push]
 rw[<-Array.foldl_toList];refine Eq.trans (key es.toList ((P.funcs[f]?).any (·.norace)) #[] (fun e he=>h e (Array.mem_toList_iff.1 he))) ?_;show List.foldl dE d es.toList=Array.foldl _ d es;rw[Array.foldl_toList];rfl
theorem JB{α:Type}(s:Sem α):∀{w:World} {es:Array Event},(∀e∈es,∀m,e.loc=.mark m->e.sync=true)->∀e∈(s.runT P w es).2,∀m,e.loc=.mark m->e.sync=true:=by
 have push:∀{es:Array Event} {e0:Event},(∀e∈es,∀m,e.loc=.mark m->e.sync=true)->(∀m,e0.loc=.mark m->e0.sync=true)->∀e∈es.push e0,∀m,e.loc=.mark m->e.sync=true:=fun h h1 e he=>(Array.mem_push.1 he).elim (h e) fun x=>x▸h1;have app:∀{es:Array Event} (l:List Addr) (wr sy:Bool),(∀e∈es,∀m,e.loc=.mark m->e.sync=true)->∀e∈es++l.toArray.map (fun a=>(⟨.cell a,wr,sy⟩:Event)),∀m,e.loc=.mark m->e.sync=true:=fun l wr sy h e he=>by
  rcases Array.mem_append.1 he with h1|h1
  ·exact h e h1
  ·obtain⟨a,_,rfl⟩:=Array.mem_map.1 h1;intro m hm;cases hm
 induction s with
 |pure _=>intro w es h;exact h
 |load _ _ _ ih=>
  intro w es h;simp only[Sem.runT];split
  ·exact ih _ (push h (fun m hm=>by cases hm))
  ·split
   ·exact ih _ (app _ _ _ h)
   ·exact h
 |store m a v k ih=>
  intro w es h;cases v<;>simp only[Sem.runT]<;>first|exact h|(split<;>first|(split<;>first|exact h|exact ih (push h (fun m hm=>by cases hm))|exact ih (app _ _ _ h)))
 |new _ _ ih=>intro w es h;exact ih _ h
 |shape _ _ ih=>intro w es h;exact ih _ h
 |freeze _ _ _ ih=>intro w es h;exact ih h
 |frozen _ _ ih=>intro w es h;exact ih _ h
 |getObj _ _ ih=>
  intro w es h;simp only[Sem.runT];split
  ·exact h
  ·exact ih _ (push h (fun m hm=>by cases hm))
  ·exact h
 |setObj _ _ _ ih=>
  intro w es h;simp only[Sem.runT];split
  ·exact h
  ·exact ih (push h (fun m hm=>by cases hm))
  ·exact h
 |choose _ _ ih=>intro w es h;simp only[Sem.runT];split<;>exact ih _ h
 |sys _ _ ih=>intro w es h;exact ih _ (push h (fun m hm=>by cases hm))
 |program _ ih=>intro w es h;exact ih _ h
 |mark _ _ ih=>intro w es h;exact ih (push h (fun m hm=>rfl))
 |halt _=>intro w es h;exact h
theorem oB(hf:P.funcs[f]?=some fn)(hname:(fn.name == "runtime.NumGoroutine")=false)(hb:fn.body.isNone=true)(hn:Extern.findNext fn=none)(he:Extern.find fn=some e)(args:Array Value)(w:World):
 (callFunc f args).runT P w #[]=(do pure (Next.value (<-e args)):Sem Next).runT P w #[⟨.mark (.extern f),false,true⟩]:=by show Sem.runT P (Sem.program fun p=>_) w #[]=_;simp only[Sem.runT];show Sem.runT P (match P.funcs[f]? with|none=>_|some fn=>_) w #[]=_;rw[hf];simp only[hname,hb,hn,he,Bool.false_eq_true,if_false,if_true];rfl
theorem dQ(hf:P.funcs[f]?=some fn)(hname:(fn.name == "runtime.NumGoroutine")=false)(hb:fn.body.isNone=true)(hn:Extern.findNext fn=none)(he:Extern.find fn=some e)
 (xG:∀args,BT false (do pure (Next.value (<-e args)):Sem Next)) (args:Array Value) (w:World) (n:Next) (w':World) (es:Array Event) (hr:(callFunc f args).runT P w #[]=(.ok n w',es)):(∃v,n=.value v)/\∀g d,deafBehind d (seen P g es)=d:=by
 rw[oB hf hname hb hn he]at hr;have h0:∀e∈(#[⟨.mark (.extern f),false,true⟩]:Array Event),∀m,e.loc=.mark m->e.sync=true:=fun e he m _=>by simp at he;rw[he]
 refine⟨?_,fun g d=>?_⟩
 ·rcases(z6 (e args)).out hr with h|h
  ·exact h
  ·subst h;have:=(iW (Q:=fun n=>∃v,n=Next.value v) (e args) (f:=fun v=>Pure.pure (Next.value v)) fun _=>.pure ⟨_,rfl⟩).out hr;exact this
 ·have h1:=JB (P:=P) (do pure (Next.value (<-e args)):Sem Next) (w:=w) h0;rw[hr]at h1;rw[uw h1,(xG args).deaf d hr];rfl
end
section
open Go Go.Conc
theorem BT.then{α β:Type}{s:Sem α}{f:α->Sem β}(h:BT b s)(hf:∀a,BT false (f a)):BT b (s >>= f):=by
 show BT b (s.bind f);induction h with
 |pure=>exact hf _
 |load _ ih=>exact .load fun v=>ih v
 |store _ ih=>exact .store ih
 |new _ ih=>exact .new fun r=>ih r
 |shape _ ih=>exact .shape fun s=>ih s
 |freeze _ ih=>exact .freeze ih
 |frozen _ ih=>exact .frozen fun b=>ih b
 |getObj _ ih=>exact .getObj fun o=>ih o
 |setObj _ ih=>exact .setObj ih
 |choose _ ih=>exact .choose fun n=>ih n
 |sys _ ih=>exact .sys fun n=>ih n
 |program _ ih=>exact .program fun p=>ih p
 |mark h1 h2 _ ih=>exact .mark h1 h2 ih
 |Nk _ ih=>exact .Nk ih
 |en _ ih=>exact .en ih
 |halt=>exact .halt
theorem DS{s:Sem Value}(h:BT false s):BT false (do pure (Next.value (<-s)):Sem Next):=h.then fun _=>.pure
theorem fo{s:Sem Value}(h:NM s):BT false (do pure (Next.value (<-s)):Sem Next):=h.bt fun _=>.pure
theorem QF{β:Type}{f:Unit->Sem β}(h:BT true (f ())):BT false (mark .disable >>= f):=.Nk h
theorem QG{β:Type}{f:Unit->Sem β}(h:BT false (f ())):BT true (mark .enable >>= f):=.en h
theorem DT(t:Extern.Atomic.T)(a:Addr):NM (Extern.Atomic.read t a):=by unfold Extern.Atomic.read;(repeat' (first|(with_reducible first|exact NM.pure' _|exact xR ..|exact cJ ..|refine NM.bind ?_ (fun _=>?_)|refine bg ?_ ?_)|dsimp only|split|intro _))
theorem KI{α:Type}{f:α->Sem Bool}(h:∀a,NM (f a)):∀(l:List α),NM (l.anyM f)
 | []=>.pure
 |a :: l=>by
  unfold List.anyM;refine NM.bind (h a) fun b=>?_;cases b
  ·exact KI h l
  ·exact .pure
theorem vE(a:Addr):NM (Extern.Atomic.touchesFrozen a):=by unfold Extern.Atomic.touchesFrozen;repeat' (first|exact KI (fun _=>nA _) _|(repeat' (first|(with_reducible first|exact nA ..|exact cJ ..|exact qI ..|exact fZ ..|refine NM.bind ?_ (fun _=>?_)|refine bg ?_ ?_)|dsimp only|split|intro _)))
theorem KJ(t:Extern.Atomic.T)(args:Array Value):NM (Extern.Atomic.casT t args):=by
 rcases args with⟨_|⟨a0,_|⟨a1,_|⟨a2,_|⟨a3,l⟩⟩⟩⟩⟩ <;>first|exact NM.halt|skip
 refine NM.bind (iD a0) fun a=>?_;repeat' (first|exact vE _|exact DT ..|(repeat' (first|(with_reducible first|exact NM.pure' _|exact NM.halt|exact lO ..|exact aB ..|exact cJ ..|exact z7 ..|exact iD ..|refine NM.bind ?_ (fun _=>?_)|refine bg ?_ ?_)|dsimp only|split|intro _)))
theorem vF(op:IntKind->Int->Int->Sem Value)(hop:∀k x y,NM (op k x y))(k:IntKind)(b:Bool)(args:Array Value):NM (Extern.Atomic.update op k b args):=by
 rcases args with⟨_|⟨a0,_|⟨a1,_|⟨a2,l⟩⟩⟩⟩ <;>first|exact NM.halt|skip
 refine NM.bind (iD a0) fun a=>?_;repeat' (first|exact hop ..|exact DT ..|(repeat' (first|(with_reducible first|exact NM.pure' _|exact NM.halt|exact lO ..|exact j3 ..|exact iD ..|refine NM.bind ?_ (fun _=>?_))|dsimp only|split|intro _)))
theorem abB(args:Array Value):NM (Extern.Race.at_ args):=by unfold Extern.Race.at_;(repeat' (first|(with_reducible first|exact NM.pure' _|exact aB ..)|dsimp only|split|intro _))
theorem qJ(m:Addr->Mark)(h1:∀a,m a≠.disable)(h2:∀a,m a≠.enable)(args:Array Value):NM (Extern.Race.marked m args):=NM.bind (abB args) fun a=>.mark (h1 a) (h2 a) .pure
theorem JC(args:Array Value):NM (Extern.Sync.canSpin args):=by
 rcases args with⟨_|⟨a0,_|⟨a1,l⟩⟩⟩ <;>first|exact NM.halt|skip
 cases a0<;>first|exact NM.halt|skip
 show NM (if _ then _ else _);(repeat' (first|(with_reducible first|exact NM.pure' _|exact NM.halt|exact dD ..|refine NM.bind ?_ (fun _=>?_)|refine bg ?_ ?_)|dsimp only|split|intro _))
theorem JD(args:Array Value):NM (Extern.Sync.nothing args):=.pure
theorem JE(h:String->Halt)(args:Array Value):NM (Extern.Sync.die h args):=by
 rcases args with⟨_|⟨a0,_|⟨a1,l⟩⟩⟩ <;>first|exact NM.halt|skip
 cases a0<;>first|exact NM.halt|skip
 rename_i s;show NM (match String.fromUTF8? s with|some m=>_|none=>_);(repeat' (first|(with_reducible first|exact NM.halt|exact cJ ..)|dsimp only|split|intro _))
theorem TC(args:Array Value):NM (Extern.OsHooks.nano args):=by unfold Extern.OsHooks.nano Extern.OsHooks.clock;(repeat' (first|(with_reducible first|exact NM.pure' _|exact QH ..|exact aB ..|refine NM.bind ?_ (fun _=>?_))|dsimp only|split|intro _))
theorem Gm(args:Array Value):NM (Extern.Sync.count args):=by unfold Extern.Sync.count;(repeat' (first|(with_reducible first|exact NM.pure' _|exact xR ..|exact aB ..|exact cJ ..|refine NM.bind ?_ (fun _=>?_))|dsimp only|split|intro _))
theorem rK(args:Array Value):BT false (Extern.Sync.semacquire args):=by
 unfold Extern.Sync.semacquire;refine QF ((Gm args).bt fun x=>?_);obtain⟨a,n⟩:=x;dsimp only;split
 ·exact NM.bt .halt fun _=>NM.bt (lO ..) fun _=>QG .pure
 ·exact NM.bt (lO ..) fun _=>QG .pure
theorem rL(args:Array Value):BT false (Extern.Sync.semrelease args):=by unfold Extern.Sync.semrelease;refine QF ((Gm args).bt fun x=>?_);obtain⟨a,n⟩:=x;exact NM.bt (j4 ..) fun _=>NM.bt (lO ..) fun _=>QG .pure
theorem Gn(hf:P.funcs[f]?=some fn)(hname:(fn.name == "runtime.NumGoroutine")=false)(hb:fn.body.isNone=true)(hn:Extern.findNext fn=none)(he:Extern.find fn=some (fun _=>do mark m;pure Extern.Race.none_))
 (hδ:∀d,dE d ⟨.mark m,false,true⟩=δ d) (args:Array Value) (w:World) (n:Next) (w':World) (es:Array Event) (hr:(callFunc f args).runT P w #[]=(.ok n w',es)):(∃v,n=.value v)/\∀g d,deafBehind d (seen P g es)=δ d:=by rw[oB hf hname hb hn he]at hr;have e:(do pure (Next.value (<-(do mark m;pure Extern.Race.none_:Sem Value))):Sem Next).runT P w #[⟨.mark (.extern f),false,true⟩]=(.ok (.value Extern.Race.none_) w,#[⟨.mark (.extern f),false,true⟩,⟨.mark m,false,true⟩]):=rfl;rw[e]at hr;cases hr;refine⟨⟨_,rfl⟩,fun g d=>?_⟩;rw[uw (fun e he m _=>by simp at he;rcases he with rfl|rfl<;>rfl),<-hδ];rfl
theorem TD(hf:P.funcs[f]?=some fn)(hname:(fn.name == "runtime.NumGoroutine")=false)(hb:fn.body.isNone=true)(hn:Extern.findNext fn=none)(he:Extern.find fn=some (fun _=>do mark m;pure Extern.Race.none_))
 (hδ:∀d,dE d ⟨.mark m,false,true⟩=δ d) (args:Array Value) (w:World):∃v es,(callFunc f args).runT P w #[]=(.ok (.value v) w,es)/\∀g d,deafBehind d (seen P g es)=δ d:=by
 have e:(callFunc f args).runT P w #[]=(.ok (.value Extern.Race.none_) w,#[⟨.mark (.extern f),false,true⟩,⟨.mark m,false,true⟩]):=by rw[oB hf hname hb hn he];rfl
 exact⟨_,_,e,(Gn hf hname hb hn he hδ args w _ _ _ e).2⟩
theorem QI(t:Extern.Atomic.T)(args:Array Value):NM (Extern.Atomic.loadT t args):=by
 rcases args with⟨_|⟨a0,_|⟨a1,l⟩⟩⟩ <;>first|exact NM.halt|skip
 exact NM.bind (iD a0) fun a=>DT ..
theorem MT(args:Array Value):NM (Extern.Atomic.storeT args):=by
 rcases args with⟨_|⟨a0,_|⟨a1,_|⟨a2,l⟩⟩⟩⟩ <;>first|exact NM.halt|skip
 exact NM.bind (iD a0) fun a=>NM.bind (lO ..) fun _=>.pure
end
section
open Go Go.Conc
section
variable {P:Program}{T:gI}
theorem Ii(hT:gY P T){a b:Nat}(hi:T.j8 f a=some b)(h2:a<2)(args:Array Value)(ha:∀n∈T.vY f,vD T (args.getD n undef)):AG T a (Frame.enter P f args .normal) []:=by
 obtain⟨fn,c,h1,_,h3,r,h4,h5⟩:=hT.j8 f a b hi;refine⟨b,⟨⟨rfl,(fun x hx=>by simp[Frame.enter]at hx),.inl rfl,⟨a,hi⟩,.inr (.inl rfl)⟩,?_⟩,rfl⟩;show m9 T a _ b;refine⟨fun n hn=>?_,a, [],Nat.mod_eq_of_lt h2,?_,?_⟩
 ·simp only[Frame.enter]at hn⊢;have:=ha n hn;rw[Array.getD_eq_getD_getElem?]at this⊢;rw[Array.getElem?_append];split
  ·exact this
  ·cases hx:(Array.replicate ((P.funcs[f]?.map (·.ntmps)).getD 0-args.size) undef)[n-args.size]? with
   |none=>exact fj
   |some y=>
    rw[Array.getElem?_replicate]at hx;split at hx
    ·cases hx;exact fj
    ·cases hx
 ·rw[Nat.div_eq_of_lt h2];unfold oT;split<;>rfl
 ·show oR T f b [.code _] a [];rw[h1];simp only[Option.bind_some,h3,Option.getD_some];exact⟨r,h4,rfl,fun e he=>⟨h5 e he,rfl⟩⟩
end
end
section
open Go Go.Conc
variable {P:Program}{Sb:Nat->Prop}{qt:Prop}
theorem F3{α:Type}{s:Sem α}{x:α}(h:∀(w:World) (es:Array Event),s.runT P w es=(.ok x w,es)):af P Sb qt s:=by constructor;intro v w y v' hs hr hg es;rw[<-Sem.runT_fst P s v #[],h]at hr;cases hr;exact⟨w,es,h w es,hs,rfl,by omega,fun e he=>.inl he⟩
theorem F4{c:Code}(h1:P.funcs[f]?=some fn)(h2:(fn.name == "runtime.NumGoroutine")=false)(h3:fn.body=some c)(args:Array Value):af P Sb qt (callFunc f args):=F3 (fP h1 h2 h3 args)
theorem rH(hf:P.funcs[f]?=some fn)(hname:(fn.name == "runtime.NumGoroutine")=false)(hb:fn.body.isNone=true)(hn:Extern.findNext fn=none)(he:Extern.find fn=some e)(args:Array Value)(w:World)(es:Array Event):
 (callFunc f args).runT P w es=(do pure (Next.value (<-e args)):Sem Next).runT P w (es.push ⟨.mark (.extern f),false,true⟩):=by show Sem.runT P (Sem.program fun p=>_) w es=_;simp only[Sem.runT];show Sem.runT P (match P.funcs[f]? with|none=>_|some fn=>_) w es=_;rw[hf];simp only[hname,hb,hn,he,Bool.false_eq_true,if_false,if_true];rfl
theorem dA(hf:P.funcs[f]?=some fn)(hname:(fn.name == "runtime.NumGoroutine")=false)(hb:fn.body.isNone=true)(hn:Extern.findNext fn=none)(he:Extern.find fn=some e)(h:∀args,af P Sb False (e args))(args:Array Value):af P Sb False (callFunc f args):=by constructor;intro v w y v' hs hr hg es;rw[<-Sem.runT_fst P _ v #[],rH hf hname hb hn he,Sem.runT_fst]at hr;obtain⟨w',es',h1,h2,h3,h4,h5⟩:=(cR (h args)).Ar hs hr hg (es.push ⟨.mark (.extern f),false,true⟩);exact⟨w',es',by rw[rH hf hname hb hn he];exact h1,h2,h3,h4,me (FJ _ _ _ (fun h=>h.elim)) h5⟩
theorem ou(m:Mark):af P Sb False (mark m):=wA (fun h=>h.elim) .pure
theorem Dw(t:Extern.Atomic.T)(a:Addr):af P Sb qt (Extern.Atomic.read t a):=by unfold Extern.Atomic.read;exact gdA
theorem Kv{α:Type}{f:α->Sem Bool}(h:∀a,af P Sb qt (f a)):∀(l:List α),af P Sb qt (l.anyM f)
 | []=>af.pure
 |a :: l=>by
  unfold List.anyM;refine af.bind (h a) fun b=>?_;cases b
  ·exact Kv h l
  ·exact af.pure
theorem vA(a:Addr):af P Sb qt (Extern.Atomic.touchesFrozen a):=by unfold Extern.Atomic.touchesFrozen;repeat' (first|exact Kv (fun _=>qB _) _|(repeat' (first|(with_reducible first|exact qB ..|exact qC ..|exact fY ..|exact bT|refine af.bind ?_ (fun _=>?_)|refine bn ?_ ?_)|dsimp only|split|intro _)))
theorem Kn(t:Extern.Atomic.T)(args:Array Value):af P Sb qt (Extern.Atomic.casT t args):=by
 rcases args with⟨_|⟨a0,_|⟨a1,_|⟨a2,_|⟨a3,l⟩⟩⟩⟩⟩ <;>first|exact af.halt|skip
 refine af.bind (iC a0) fun a=>?_;repeat' (first|exact vA _|exact Dw ..|(repeat' (first|(with_reducible first|exact af.pure' _|exact af.halt|exact lF ..|exact zz ..|exact iC ..|refine cM ?_|exact cg|exact bT|refine af.bind ?_ (fun _=>?_)|refine bn ?_ ?_)|dsimp only|split|intro _)))
theorem vg(op:IntKind->Int->Int->Sem Value)(hop:∀k x y,af P Sb qt (op k x y))(k:IntKind)(b:Bool)(args:Array Value):af P Sb qt (Extern.Atomic.update op k b args):=by
 rcases args with⟨_|⟨a0,_|⟨a1,_|⟨a2,l⟩⟩⟩⟩ <;>first|exact af.halt|skip
 refine af.bind (iC a0) fun a=>?_;repeat' (first|exact hop ..|exact Dw ..|(repeat' (first|(with_reducible first|exact af.pure' _|exact af.halt|exact lF ..|exact jY ..|exact iC ..|refine af.bind ?_ (fun _=>?_))|dsimp only|split|intro _)))
theorem aaU(args:Array Value):af P Sb qt (Extern.Race.at_ args):=by unfold Extern.Race.at_;exact gdA
theorem qA(m:Addr->Mark)(args:Array Value):af P Sb False (Extern.Race.marked m args):=af.bind (aaU args) fun a=>af.bind (ou _) fun _=>af.pure
theorem IZ(args:Array Value):af P Sb qt (Extern.Sync.canSpin args):=by
 rcases args with⟨_|⟨a0,_|⟨a1,l⟩⟩⟩ <;>first|exact af.halt|skip
 cases a0<;>first|exact af.halt|skip
 show af P Sb qt (if _ then _ else _);exact gdA
theorem I0(args:Array Value):af P Sb qt (Extern.Sync.nothing args):=af.pure
theorem I1(h:String->Halt)(args:Array Value):af P Sb qt (Extern.Sync.die h args):=by
 rcases args with⟨_|⟨a0,_|⟨a1,l⟩⟩⟩ <;>first|exact af.halt|skip
 cases a0<;>first|exact af.halt|skip
 rename_i s;show af P Sb qt (match String.fromUTF8? s with|some m=>_|none=>_);exact gdA
theorem P9:af P Sb qt (sys (.clock 1)):=by
 constructor;intro v w x v' hs hr hg es;have e:∀(w:World) (es:Array Event),(sys (.clock 1)).runT P w es=(.ok (.int ((w.os.mono+w.tick:Nat):Int)) w.later,es.push ⟨.output,true,false⟩):=fun w es=>rfl;rw[<-Sem.runT_fst P _ v #[],e]at hr;simp only[Result.ok.injEq]at hr;obtain⟨rfl,rfl⟩:=hr;have hd:v.later.drawn=v.drawn+1:=rfl;have ht:w.tick=v.tick:=by unfold World.tick;have h0:=hg 0 (by rw[hd];omega) (.extern "clock.advance" 0);simp only[Nat.add_zero]at h0;rw[h0]
 refine⟨w.later,_,by rw[e,ht,hs.os],?_,rfl,by rw[hd];show w.drawn+1=_;omega,me ⟨fun x a hx hl=>?_,fun _=>⟨by simp,by simp⟩⟩ fun e he=>.inl he⟩
 ·refine⟨hs.size,hs.same,hs.gu,?_,hs.out⟩;show ({v.os with wall:=v.os.wall+v.tick,mono:=v.os.mono+v.tick}:Os)={w.os with wall:=w.os.wall+w.tick,mono:=w.os.mono+w.tick};rw[ht,hs.os]
 ·simp[MemAct.ofEvent,MemAct.touch?]at hx;subst hx;cases hl
theorem SW(args:Array Value):af P Sb qt (Extern.OsHooks.nano args):=by unfold Extern.OsHooks.nano Extern.OsHooks.clock;repeat' (first|exact P9|(repeat' (first|(with_reducible first|exact af.pure' _|exact aG ..|refine af.bind ?_ (fun _=>?_))|dsimp only|split|intro _)))
theorem F5(args:Array Value):af P Sb qt (Extern.Sync.count args):=by unfold Extern.Sync.count;exact gdA
theorem rB(args:Array Value):af P Sb False (Extern.Sync.semacquire args):=by
 unfold Extern.Sync.semacquire;refine af.bind (ou _) fun _=>af.bind (F5 args) fun x=>?_;obtain⟨a,n⟩:=x;dsimp only;split
 ·exact af.bind af.halt fun _=>af.bind (lF ..) fun _=>af.bind (ou _) fun _=>af.pure
 ·exact af.bind (lF ..) fun _=>af.bind (ou _) fun _=>af.pure
theorem rC(args:Array Value):af P Sb False (Extern.Sync.semrelease args):=by unfold Extern.Sync.semrelease;refine af.bind (ou _) fun _=>af.bind (F5 args) fun x=>?_;obtain⟨a,n⟩:=x;exact af.bind (jX ..) fun _=>af.bind (lF ..) fun _=>af.bind (ou _) fun _=>af.pure
theorem PW(t:Extern.Atomic.T)(args:Array Value):af P Sb qt (Extern.Atomic.loadT t args):=by
 rcases args with⟨_|⟨a0,_|⟨a1,l⟩⟩⟩ <;>first|exact af.halt|skip
 exact af.bind (iC a0) fun a=>Dw ..
theorem Ml(args:Array Value):af P Sb qt (Extern.Atomic.storeT args):=by
 rcases args with⟨_|⟨a0,_|⟨a1,_|⟨a2,l⟩⟩⟩⟩ <;>first|exact af.halt|skip
 exact af.bind (iC a0) fun a=>af.bind (lF ..) fun _=>af.pure
theorem PX(m:Mark)(x:Value):af P Sb False (do mark m;pure x:Sem Value):=af.bind (ou m) fun _=>af.pure
end
section
open Go Go.Conc
section
variable {P:Program}{Sb:Nat->Prop}{α β:Type}
theorem af.UA{s:Sem α}{f:α->Sem β}(h:af P Sb False s)(hf:∀a v v',s.run P v=.ok a v'->af P Sb False (f a)):af P Sb False (s >>= f):=by
 constructor;intro v w x v' hs hr hg es;rw[run_bind]at hr;cases h1:s.run P v with
 |halt _ _=>rw[h1]at hr;cases hr
 |ok a v1=>
  rw[h1]at hr;simp only at hr;obtain⟨t1,d1⟩:=mX s h1;obtain⟨t2,d2⟩:=mX (f a) hr;obtain⟨w1,xN,q1,q2,q3,q4,q5⟩:=h.Ar hs h1 (fun k hk q=>hg k (by omega) q) es;obtain⟨w2,xK,r1,r2,r3,r4,r5⟩:=(hf a v v1 h1).Ar q2 hr (fun k hk q=>by have:=hg (k+(v1.drawn-v.drawn)) (by omega) q;rw[t1,q3,q4,show v1.drawn+k=v.drawn+(k+(v1.drawn-v.drawn)) by omega,show w.drawn+(v1.drawn-v.drawn)+k=w.drawn+(k+(v1.drawn-v.drawn)) by omega];exact this) xN
  refine⟨w2,xK,by rw[fS,q1];exact r1,r2,r3.trans q3,by omega,fun e he=>?_⟩;rcases r5 e he with h3|h3
  ·exact q5 e h3
  ·exact .inr h3
end
structure oJ(P:Program)(T:gI)(Sb:Nat->Prop):Prop where
 sda:P.follows .staticDataAhead=true
 ext:∀f,T.ext f=true->∀args,af P Sb False (callFunc f args)
 Nk:∀args,af P Sb False (callFunc T.Nk args)
 en:∀args,af P Sb False (callFunc T.en args)
def StepT(P:Program)(Sb:Nat->Prop)(fr:Frame)(c:List Frame):Prop:=∃(α:Type) (s:Sem α),af P Sb False s/\∀(cs:List Frame),
 (∀w x w' es,s.runT P w #[]=(.ok x w',es)->∀gC c1 w1 xN,stepG P true (G fr (c++cs)) w=.go (G gC c1) w1 xN->w1=w'/\∀u u' es',s.runT P u #[]=(.ok x u',es')->stepG P true (G fr (c++cs)) u=.go (G gC c1) u' (seen P fr.fn es'))/\
 (∀w h w' es,s.runT P w #[]=(.halt h w',es)->∀gC c1 w1 xN,stepG P true (G fr (c++cs)) w=.go (G gC (c1++cs)) w1 xN->¬iT gC c1)
section
variable {P:Program}{T:gI}{Sb:Nat->Prop}{d out:Nat}{fr:Frame}{c:List Frame}
theorem bU(h:∀cs w,stepG P true (G fr (c++cs)) w=.go (G gC (c1++cs)) w #[]):StepT P Sb fr c:=by refine⟨Unit,.pure (),af.pure,fun cs=>⟨fun w x w' es hr gC c1 w1 xN hs=>?_,fun w h w' es hr=>by cases hr⟩⟩;cases hr;rw[h]at hs;cases hs;refine⟨rfl,fun u u' es' hu=>?_⟩;cases hu;exact h cs u
theorem wH(h:∀cs w,∃o w' es,stepG P true (G fr (c++cs)) w=.ended o w' es):StepT P Sb fr c:=by refine⟨Unit,.pure (),af.pure,fun cs=>⟨fun w x w' es hr gC c1 w1 xN hs=>?_,fun w h w' es hr=>by cases hr⟩⟩;obtain⟨o,w2,xK,he⟩:=h cs w;rw[he]at hs;cases hs
theorem Mt(hst:∀g,P.stepOf g=none)(qT:P.follows .staticDataAhead=true)(g:Nat)(w:World)(cs:List Frame):∃o w' es,early P fr cs none g w=.ended o w' es:=by unfold early;simp only[qT,hst,Bool.not_true,Bool.false_eq_true,if_false];exact⟨_,_,_,rfl⟩
theorem Qa(hst:∀g,P.stepOf g=none)(qT:P.follows .staticDataAhead=true)(hk:fr.kind=.normal\/fr.kind=.deferred)(hr:s.runT P w #[]=(.halt h w',es))(cs:List Frame)(hs:stepG.apply P true fr (c++cs) none s w=.go (G gC (c1++cs)) w1 xN)(hm:fr.mode=.run):¬iT gC c1:=by
 have dead:∀{x:GStep},uj x->x=.go (G gC (c1++cs)) w1 xN->False:=fun hd he=>by
  rcases hd with⟨o,w2,xK,h1⟩|⟨g',w2,xK,h1,h2⟩|⟨g',g2,w2,xK,h1⟩
  ·rw[h1]at he;cases he
  ·rw[h1]at he;cases he;rcases h2 with h2|h2|⟨_,d,f,h2,_⟩ <;>cases h2
  ·rw[h1]at he;cases he
 by_cases hu:∃g,h=.unsupported (.initOrder g)
 ·obtain⟨g,rfl⟩:=hu;exfalso;have WO:(fr.kind == CallKind.early)=false:=by rcases hk with h|h<;>rw[h]<;>rfl
  simp only[stepG.apply,if_true,hr,WO,Bool.false_eq_true,if_false]at hs;obtain⟨o,w2,xK,he⟩:=Mt (fr:=fr) hst qT g w' (c++cs);rw[he]at hs;cases hs
 ·rcases zL (fr:=fr) hst hk hr with⟨e,es',he,hg⟩|⟨w2,hg⟩|hg
  ·rw[hg]at hs;have e0:fr.raise [e]={fr with mode:=.panicking [e]}:=by unfold Frame.raise;rw[hm]
   rw[e0]at hs;simp only[GStep.go.injEq]at hs;have hf:gC={fr with mode:=.panicking [e]}:=by have:=congrArg Goroutine.frame hs.1;exact this.symm
   intro hn;exact hn gC (zbh ..) [e] (by rw[hf])
  ·exfalso;cases h with
   |unsupported u=>
    have kC:=hg (c++cs);simp only[stepG.apply,if_true,hr]at kC;cases u with
    |initOrder g=>exact hu ⟨g,rfl⟩
    |_=>cases kC
   |panic v=>
    have kC:=hg (c++cs);simp only[stepG.apply,if_true,hr,GStep.after]at kC;simp only[GStep.go.injEq]at kC;have e1:=congrArg (fun g=>g.frame.mode) kC.1;simp only[G,Frame.raise,hm]at e1;cases e1
   |goexit=>
    have kC:=hg (c++cs);simp only[stepG.apply,if_true,hr,GStep.after]at kC;simp only[GStep.go.injEq]at kC;have e1:=congrArg (fun g=>g.frame.mode) kC.1;simp only[G,Frame.raise,hm]at e1;cases e1
   |fatal m=>
    have kC:=hg (c++cs);simp only[stepG.apply,if_true,hr]at kC;rcases(zM (P:=P) fr (c++cs) m w').after (seen P fr.fn (if fr.kind == .early then #[]else es))with⟨o,w3,S4,h1⟩|⟨g',w3,S4,h1,h2⟩|⟨g',g2,w3,S4,h1⟩
    ·rw[h1]at kC;cases kC
    ·rw[h1]at kC;cases kC;rcases h2 with h2|h2|⟨_,d,f,h2,_⟩ <;>cases h2
    ·rw[h1]at kC;cases kC
   |throw m=>
    have kC:=hg (c++cs);simp only[stepG.apply,if_true,hr]at kC;rcases(ox fr [] m false w').after (seen P fr.fn (if fr.kind == .early then #[]else es))with⟨o,w3,S4,h1⟩|⟨g',w3,S4,h1,h2⟩|⟨g',g2,w3,S4,h1⟩
    ·exact absurd (h1.symm.trans kC) (by intro h;cases h)
    ·have h3:=h1.symm.trans kC;cases h3;rcases h2 with h2|h2|⟨_,d,f,h2,_⟩ <;>cases h2
    ·exact absurd (h1.symm.trans kC) (by intro h;cases h)
   |blocked=>
    have kC:=hg (c++cs);simp only[stepG.apply,if_true,hr,GStep.after]at kC;cases kC
   |waiting=>
    have kC:=hg (c++cs);simp only[stepG.apply,if_true,hr,GStep.after]at kC;cases kC
   |_=>
    have kC:=hg (c++cs);simp only[stepG.apply,if_true,hr]at kC;cases kC
  ·exact fun _=>dead (hg (c++cs)) hs
theorem B8{n:Next}(Uy:∀d,n≠Next.spawn d)(hk:fr.kind=.normal\/fr.kind=.deferred){v v1:World}{esv esw:Array Event}(hv:s.runT P v #[]=(.ok n v1,esv))(hw:s.runT P w #[]=(.ok n w1,esw))(h:stepG.apply P true fr cs none s v=.go g1 v2 es):v2=v1/\stepG.apply P true fr cs none s w=.go g1 w1 (seen P fr.fn esw):=by
 have WO:(fr.kind == CallKind.early)=false:=by rcases hk with h|h<;>rw[h]<;>rfl
 simp only[stepG.apply,if_true,hv,WO,Bool.false_eq_true,if_false]at h;simp only[stepG.apply,if_true,hw,WO,Bool.false_eq_true,if_false];cases n<;>simp only at h⊢<;>(repeat' (split at h)) <;>first
  |(simp only[GStep.after,GStep.go.injEq]at h⊢;obtain⟨h1,h2,h3⟩:=h;exact⟨h2.symm,h1,trivial,by simp⟩)
  |(simp[GStep.after]at h;done)
  |exact absurd rfl (Uy _)
end
end
end Go.Proofs.YteoahlieielcdaaGreat
