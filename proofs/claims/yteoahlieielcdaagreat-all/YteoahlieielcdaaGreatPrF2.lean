import Derived.Test.YteoahlieielcdaaGreatPr18
set_option linter.all false
set_option maxHeartbeats 1000000
set_option maxRecDepth 100000
open Option renaming some->Y,none->F
namespace Go.Proofs.YteoahlieielcdaaGreat
open Go.Proofs.Tryz
open Go Go.RowKit Go.MuLone
open Go.Maps (Keyed)
variable{P:aB}{w w':af}{b n cnt i:Nat}{r:MR}
section
def aS.ab7{k:az}{f:Lit->Option aj}(h:aS w P k b f)(K:Keyed P k){L:List Lit}(hnd:L.Pairwise (λa b=>a≠b))(hL:∀kl,f kl≠F↔kl∈L):
 ∃n D,w.ownsMap P k aY b n D/\Says D f/\Maps.size D=L.length:=by
 obtain⟨n2,D2,⟨yu,IK,fG,_,_,S3⟩,hsz⟩:=h.size K hnd hL;obtain⟨n,D,⟨es,clock,hb,wv,hn,hD⟩,hs⟩:=h;obtain⟨rfl,rfl⟩:yu=es/\IK=clock:=by rw[hb]at fG;injection fG with e;injection e with e1 e2;exact⟨e1.symm,e2.symm⟩
 refine⟨n,D,⟨_,_,hb,wv,hn,hD⟩,hs,?_⟩;rw[hD,<-S3];exact hsz
def C9{k:az}{r:Nat}{D:DataW aj}{left:Lit->Bool}(h:w.ranges P k aY b r n D left cnt)(hb:w'.heap[b]?=w.heap[b]?)(hr:w'.heap[r]?=w.heap[r]?):w'.ranges P k aY b r n D left cnt:=by obtain⟨es,clock,since,seen,c0,h1,h2,h3,h4,h5,rest⟩:=h;exact⟨es,clock,since,seen,c0,hb.trans h1,h2,h3,h4,hr.trans h5,rest⟩
def jT(r:MR):List Lit:=r.keys.map (λx=>Lit.string x.data.toList)
def uo(hn:r.keys.Nodup):(jT r).Pairwise (λa b=>a≠b):=by unfold jT;rw[List.pairwise_map];refine hn.imp (fun{a b} hab e=>hab ?_);injection e with e;exact WideShapes.bytes_inj e
def BX{B:SB}(kl:Lit):dr B i r kl≠F↔kl∈jT r:=by
 unfold jT;constructor
 ·intro h;cases kl with
  |string l=>
   simp only[dr]at h;split at h
   ·rename_i e;obtain⟨y,hy,he⟩:=Dl.1 e;exact List.mem_map.2 ⟨y,hy,by rw[he]⟩
   ·exact absurd rfl h
  |_=>exact absurd rfl h
 ·intro h;obtain⟨y,hy,rfl⟩:=List.mem_map.1 h;simp only[dr];rw[if_pos (Dl.2 ⟨y,hy,rfl⟩)];simp
section
variable {w:af}{τ:Nat->Tag}{aJ b:Nat}{s:MS}{A:SA}
structure Seen(w:af)(A:SA)(i:Nat)(r:MR):Prop where
 nd:r.keys.Nodup
 l1:1<=r.keys.length
 l8:r.keys.length<=8
 kz:∀x∈r.keys,x.size<=8
 rd:aT w (A.R.pr i) #[fH,gy,.bool (A.R.no i),A.R.ks i,.map (Y (A.R.qm i))] 137
 qm:aS w prog 9 (A.R.qm i) (dr A.R i r)
 q:∀(j:Nat) (x:ah),r.keys[j]?=Y x->∃p,aT w (A.R.qb i j) #[p,.bool (r.asked j),.int .i64 (r.found j),.bool (A.R.hv i j),.string (A.R.tv i j),A.R.ts i j] 146
 ky:w.ownsRow 0 9 1 (A.R.ks i) r.keys.length (r.keys.map Value.string)
 tsf:∀(j:Nat) (x:ah),r.keys[j]?=Y x->AW (A.R.ts i j)
def Seen.below(h:Seen w A i r)(hB:Below w.heap.size w w'):Seen w' A i r:=
 ⟨h.nd,h.l1,h.l8,h.kz,h.rd.of_eq (hB.block _ h.rd.lt),h.qm.of_eq (hB.block _ h.qm.lt),λj x hx=>by obtain⟨p,hp⟩:=h.q j x hx;exact⟨p,hp.of_eq (hB.block _ hp.lt)⟩,aI h.ky (λk hk=>hB.block k (aQ h.ky k hk).2),h.tsf⟩
end
end
section
structure C6(r:MR)(ms:List Int):Prop where
 le:ms.length<=8
 of:∀m∈ms,∃j x,r.keys[j]?=Y x/\m=r.found j
 all:∀(j:Nat) (x:ah),r.keys[j]?=Y x->(r.found j:Int)∈ms
def zk{base base':Nat}{e:az}{size:Nat}{v:aj}{xs:List aj}(h:w.ownsRow base e size v n xs)(hb:base'<=base):w.ownsRow base' e size v n xs:=by refine⟨h.1,h.2.imp id ?_⟩;rintro⟨g,cap,cur,h1,h2,h3⟩;exact⟨g,cap,cur,h1,I,h3⟩
section
variable {w:af}{A:SA}
def zl(h:Seen w A i r):
 Calls prog 76 #[ptr (A.R.pr i)] w λe w'=>∃(ms:List Int) (v:aj),e=.returned v/\w'.ownsRow w.heap.size 3 1 v ms.length (ms.map (Value.int .i64))/\C6 r ms/\Below w.heap.size w w':=by
 have c4:w.cell? ⟨A.R.pr i,4,F⟩=Y (.map (Y (A.R.qm i))):=h.rd.cell (o:=4) rfl;obtain⟨n,D,hown,hs,hsize⟩:=h.qm.ab7 gx (uo h.nd) BX;have Fw:(jT r).length<=8:=by unfold jT;simpa using h.l8
 have hf:=qg A.R i r;have hQ:∀(j:Nat) (x:ah),r.keys[j]?=Y x->w.cell? ⟨A.R.qb i j,2,F⟩=Y (.int .i64 (r.found j)):=λj x hx=>by obtain⟨p,hp⟩:=h.q j x hx;exact hp.cell (o:=2) rfl
 have Yi:=h.qm.lt;obtain⟨ii,mS,iz0,iz1,iz2⟩:=info_parts C4;unfold ptr;go_enter func76,ntmps76;go_wp2_with (at_range;refine wpList_range_own _ rfl _ 135 rfl 9 139 gx underlying135 aY (A.R.qm i) n D rfl hown ?_;intro w0 C7 EA hs0)
 go_frame
 go_loopw [3,11] (λs3 _ wr=>∃(left:Lit->Bool) (cnt k:Nat) (xs:List aj) (ms:List Int),wr.ranges prog 9 aY (A.R.qm i) w.heap.size n D left cnt/\wr.ownsRow (w.heap.size+1) 3 1 s3 k xs/\k+cnt<=8/\Below w.heap.size w wr/\w.heap.size<wr.heap.size/\Hid (xs=ms.map (Value.int .i64)/\ms.length=k/\(∀m∈ms,∃j x,r.keys[j]?=Y x/\m=r.found j)/\∀(j:Nat) (x:ah),r.keys[j]?=Y x->left (.string x.data.toList)=true\/(r.found j:Int)∈ms)) (λ_ _ wr=>wr.rangeLeft (A.R.qm i) w.heap.size)
 case atStart=>
  exact⟨_,_,0, [], [],C7,World.ownsRow_nil _ _ _ _,I,(Below.refl _ _).grown EA (Nat.le_refl _) (λk e=>by cases e),I,rfl,rfl,(λm hm=>by cases hm),λj x hx=>Or.inl (BZ hs h.nd hx)⟩
 case round=>
  obtain⟨left,cnt,k,xs,ms,m6,hrow,hkc,hB,hsz,HM⟩:=hrel;obtain⟨av,jU,V7⟩:=bI hrow;subst V7;go_wp2_with (at_next;refine uq _ rfl _ rfl 9 gx underlying9 (A.R.qm i) w.heap.size n D (dr A.R i r) hs (λx=>A.R.qb i (bC r.keys x)) _ hf left cnt rfl m6 ?_ ?_)
  ·intro hl0;have HL:Hid (C6 r ms):=by
    obtain⟨_,q2,q3,q4⟩:=HM.out;refine⟨I,q3,λj x hx=>?_⟩;rcases q4 j x hx with e|e
    ·rw[hl0]at e;cases e
    ·exact e
   clear hl0;have HR:Hid (wr.ownsRow w.heap.size 3 1 (.slice av k jU) ms.length (ms.map (Value.int .i64))):=by obtain⟨q1,q2,_⟩:=HM.out;rw[<-q1,q2];exact zk hrow I
   go_wp2_with fail
   go_ret;exact⟨ms,_,rfl,HR.out,HL.out,hB⟩
  ·intro x w1 Qp hxj Og L3 C8 hlt l5 hs1 tI;generalize hjx:bC r.keys x=j at *;have mg:Below w.heap.size w w1:=hB.grown l5 I (λk e=>by cases e;exact Nat.le_refl _);have cq:=hQ j x Og;have cq1:w1.cell? ⟨A.R.qb i j,2,F⟩=Y (.int .i64 (r.found j)):=(mg.cell (p:=⟨A.R.qb i j,2,F⟩) (World.block_lt_of_cell? w _ cq)).trans cq;have V8:w1.ownsRow (w.heap.size+1) 3 1 (.slice av k jU) k xs:=aI hrow (λk' hk'=>l5.block k' (aQ hrow k' hk').2 (λe=>by cases e;have:=(aQ hrow _ hk').1;omega));have HN:Hid (∀(w2:af) (v2:aj) (o:Obj) (xs2:List aj),w2.ownsRow (w.heap.size+1) 3 1 v2 (k+1) xs2->(w1.alloc o).grownBy w2 (Value.slice av k jU).ownBlock->
    w2.ranges prog 9 aY (A.R.qm i) w.heap.size n D (λz=>left z && !z.sameKey (.string x.data.toList)) Qp/\Below w.heap.size w w2/\w.heap.size<w2.heap.size):=λw2 v2 o xs2 a1 a2=>by
    have E4:w1.heap.size<w2.heap.size:=by have:=a2.size;simp at this;omega
    have kR:∀k',k'<w.heap.size+1->w2.heap[k']?=w1.heap[k']? :=λk' hk'=>(a2.block k' Yn (λe=>by have:=(aQ V8 k' e.symm).1;omega)).trans (Below.heap_alloc _ _ _ I);refine⟨C9 C8 (kR _ I) (kR _ I),⟨a2.os.trans mg.os,a2.tape.trans mg.tape,a2.output.trans mg.output,I,λk' hk'=>(kR k' I).trans (mg.block k' hk')⟩,I⟩
   have hsb:w.heap.size+1<=w1.heap.size:=I
   clear cq L3 hs1;go_wp2_with (at_builtin;refine wpList_append_own_at _ rfl (.tmp 15) (.tmp 21) 58 rfl (w.heap.size+1) 3 ii _ 1 8 underlying58 mS iz0 iz1 iz2 rfl Yo (.slice av k jU) k xs rfl (V8.alloc _) ⟨_,0,F⟩ 1 1 [.int .i64 (r.found j)] rfl rfl (cell_one_new _ _ _) (by simp[Value.oneCell']) (by unfold maxLen;omega) I Yn ?_;intro v2 w2 kA jm Ie hA2)
   obtain⟨r1,r2,r3⟩:=HN.out w2 v2 _ _ kA jm;have HM2:Hid (xs++ [.int .i64 (r.found j)]=(ms++ [(r.found j:Int)]).map (Value.int .i64)/\(ms++ [(r.found j:Int)]).length=k+1/\(∀m∈ms++ [(r.found j:Int)],∃j x,r.keys[j]?=Y x/\m=r.found j)/\∀(j':Nat) (x':ah),r.keys[j']?=Y x'->(left (.string x'.data.toList)&& !(Lit.string x'.data.toList).sameKey (.string x.data.toList))=true\/(r.found j':Int)∈ms++ [(r.found j:Int)]):=by
    obtain⟨q1,q2,q3,q4⟩:=HM.out;refine⟨by rw[q1];simp,by simp[q2],λm hm=>?_,λj' x' hx'=>?_⟩
    ·rcases List.mem_append.1 hm with hm|hm
     ·exact q3 m hm
     ·simp at hm;exact⟨j,x,Og,hm⟩
    ·by_cases e:j'=j
     ·subst e;exact Or.inr XI
     ·rcases q4 j' x' hx' with e1|e1
      ·refine Or.inl ?_;rw[e1,Maps.sameKey_ne (by intro e2;injection e2 with e2;have e3:x'=x:=WideShapes.bytes_inj e2;subst e3;exact e ((gD h.nd hx').symm.trans hjx))]
       rfl
      ·exact Or.inr (List.mem_append_left _ e1)
   go_wp2_with fail
   go_roundw
   case rel=>exact⟨_,_,k+1,_,_,r1,kA,I,r2,r3,HM2⟩
   case measure=>rw[r1.left_eq,m6.left_eq];omega
end
end
end Go.Proofs.YteoahlieielcdaaGreat
