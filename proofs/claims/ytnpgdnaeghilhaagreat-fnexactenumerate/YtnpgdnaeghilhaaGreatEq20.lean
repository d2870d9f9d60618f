import Derived.Test.YtnpgdnaeghilhaaGreatEq18
import Derived.Test.YtnpgdnaeghilhaaGreatEq19
set_option maxHeartbeats 40000000
set_option maxRecDepth 1000000
namespace Go.Proofs.YtnpgdnaeghilhaaGreat
open Go.Proofs.Tryz Go.RowKit
variable {v:Int}{X hl hs ow pr ps sh:LI}{bs ks rows:LL}{ws:LP}{T tl:List TbV}{B I be g i k n p pm r m:Nat}{o:Obj}{s1 s2 v1 v2 vb x0 x1 x2 vt vj v0 v3:Value}{W W' W5 w w0 w1 w2 Y:World}{x:Int×Int}
theorem Vz:∀k,k<7->qb (upR k)=true:=Dd
structure Trr(tl:List TbV)(k:Nat)(bs:LL)(ps:LI)(T:List TbV):Prop where
 vis:0<=zK tl (upR k)
 six:k<=6
 wf:∀t∈tl,Wf t.rows
 few:bs.length<=12
 asc:∀i,(bs.getD i []).Pairwise (·< ·)
 inb:∀i,∀v∈bs.getD i [],0<=v/\v<(k:Int)
 all:∀v:Int,0<=v->v<(k:Int)->∃i,i<bs.length/\v∈bs.getD i []
 par:xH ps bs.length=true
 rip:∀j,j<bs.length->∀l,j<l->l<=bs.length->∀v,v∈bs.getD j []->v∈bs.getD l []->v∈bs.getD (xO ps bs.length j) []
 go:∃R,RdS bs.length (λi=>bs.getD i []) R (AnJ tl) T/\∀F,(∀l,l<=bs.length->(bs.getD l []).map F∈R l)↔AnJ tl F
def jV(bs:LL)(ps:LI)(T:List TbV):List TbV:=dnT (xO ps bs.length) bs.length (upT (xO ps bs.length) T bs.length) bs.length
theorem qEf{F:Int->Int}(I:0<=v)(K:v<k):((upR k).map F).getD v.toNat 0=F v:=by
 rw[gdR (by rw[lM,zO];omega),fB,<-gdR (d:=0) (by rw[zO];omega),qBO Oo,show((v.toNat:Nat):Int)=v by omega]
section
variable {tl:List TbV} {k:Nat} {bs:LL} {ps:LI} {T:List TbV}
theorem Trr.at(h:Trr tl k bs ps T)(hi:i<=bs.length):OneT ((jV bs ps T).getD i qA) (bs.getD i [])/\∀r,r∈((jV bs ps T).getD i qA).rows↔∃f,AnJ tl f/\(bs.getD i []).map f=r:=by
 have⟨R,I,K⟩:=h.go;exact qIC h.asc (vC h.par) h.rip (λf=>(K f).1) I hi
theorem Trr.len(h:Trr tl k bs ps T):(jV bs ps T).length=bs.length+1:=by
 have⟨R,I,K⟩:=h.go;unfold jV;rw[UU,XZ,I.len]
theorem Trr.fit(h:Trr tl k bs ps T):qDx tl (upR k):=jz (xL h.vis).1 (uO k)
theorem Trr.row(h:Trr tl k bs ps T){F}(I:AnJ tl F):(upR k).map F∈qO tl (upR k):=by
 rw[(xL h.vis).2];exact(vz h.fit F).2 I
theorem Trr.val(h:Trr tl k bs ps T){F}(O:AnJ tl F)(V:0<=v)(h1:v<k):-9223372036854775808<=F v/\F v<=9223372036854775807:=by
 have I:=(xp.1 ((QH (xL h.vis).1).2.2)).symm.subset (uw.2 ⟨V,h1⟩);unfold vrJ at I;have⟨i,hi,K,e⟩:=y7.1 I;unfold qp at K;have⟨t,M,h8⟩:=List.any_eq_true.1 K;exact h.wf t M _ (O t M) _ (dF (by rw[<-e];exact aN h8))
theorem Trr.fewB(h:Trr tl k bs ps T)(I:∀v∈X,0<=v/\v<(k:Int))(K:ks.Nodup)(M:∀a∈ks,∃F,AnJ tl F/\a=ky X F):ks.length<=10000:=by
 have h1:=kq (l:=qO tl (upR k)) (f:=λp=>ky X λv=>p.getD v.toNat 0) K λa O=>by
  obtain⟨F,V,rfl⟩:=M a O;exact⟨_,h.row V,kL λv hv=>(qEf (I v hv).1 (I v hv).2).symm⟩
 have h2:(qO tl (upR k)).length<=10000:=(row_one h.vis (Vz k (O1 h.six))).few;omega
theorem Trr.fewA(h:Trr tl k bs ps T)(I:∀v∈X,0<=v/\v<(k:Int))(K:ks.Nodup)(M:∀a∈ks,∃F,AnJ tl F/\a=ky X F):ks.length<=500000:=bM (h.fewB I K M) Dd
end
section
variable {ow:Nat->LI} {p:NN}
theorem Qt{f:Nat->LI}i:∀l:LN,((l.filter λc=>decide (i<=p c)).flatMap f).length=((l.filter λc=>decide (p c=i)).flatMap f).length+((l.filter λc=>decide (i+1<=p c)).flatMap f).length
 |[]=>rfl
 |c::l=>by
  have I:=Qt (f:=f) i l;rcases Nat.lt_trichotomy (p c) i with e|e|e;rw[List.filter_cons_of_neg Sy,List.filter_cons_of_neg Sy,List.filter_cons_of_neg Sy];exact I;rw[List.filter_cons_of_pos Sy,List.filter_cons_of_pos Sy,List.filter_cons_of_neg Sy,dS,dS,lA,lA,I];omega;rw[List.filter_cons_of_pos Sy,List.filter_cons_of_neg Sy,List.filter_cons_of_pos Sy,dS,dS,lA,lA,I];omega
theorem qAJ(I:∀i,(ow i).length<=6):∀i,(((List.range i).filter λc=>decide (i<=p c)).flatMap (hdT ow p)).length<=6*i
 |0=>Ss
 |i+1=>by
  have M:=qAJ I i;rw[Qt i]at M;rw[dQ,cZ,dM,lA];have K:(([i].filter λc=>decide (i+1<=p c)).flatMap (hdT ow p)).length<=(hdT ow p i).length:=by
   by_cases e:i+1<=p i;rw[List.filter_cons_of_pos (by exact fD e)];simp;rw[List.filter_cons_of_neg (by simpa using e)];simp
  rw[kM i,lA]at K;have:=I i;unfold kids at K;omega
theorem qHY(I:∀i,(ow i).length<=6)i:(hdT ow p i).length<=6*(i+1):=by
 have K:=qAJ (p:=p) I i;rw[Qt i]at K;rw[kM i,lA];unfold kids;have:=I i;omega
theorem qEg{P:Int->Prop}(I:∀c,∀v∈ow c,P v)i:∀v∈hdT ow p i,P v:=by
 induction i using Nat.strongRecOn with
 |_ i K=>
  intro v hv;rw[kM i]at hv;rcases cF.1 hv with h|h;exact I i v h;have⟨c,M,h⟩:=List.mem_flatMap.1 h;exact K c (ui.1 M).1 v h
theorem qEh{I ch}(h:∀j,j<i->I.getD j 0=(p j:Int)):zg I ch i=(kids p i).map ch:=by
 unfold zg kids;rw[List.filter_congr (q:=λc=>decide (p c=i)) λj K=>?_];rw[h j (cJ.1 K)];exact decide_eq_decide.2 ⟨λe=>Oo,λe=>Oo⟩
theorem qFn{ch}{l:LN}:hds (l.map ch) (l.map ch).length=l.flatMap λc=>(ch c).hd:=by
 unfold hds;rw[List.take_of_length_le eA,List.flatMap_map]
end
theorem qEi{b cs s h}(M:n<=m)(I:yG b sh ow rows cs n s h):yG b sh ow rows cs m s h:=by
 have⟨i,hi,K⟩:=I;exact⟨i,Oo,K⟩
def chT(tl:List TbV)(bs:LL)(ps hd:LI):Nat->Ch:=Y7 (AnJ tl) (xO ps bs.length) (λi=>bs.getD i []) (hdT (λi=>shr (bs.getD i []) hd) (xO ps bs.length))
theorem kz(h:xH ps n=true):ps.length=n:=by
 unfold xH at h;rw[bV,dE]at h;have:=h.1;omega
theorem qEj(I:xH ps bs.length=true)(hi:i<bs.length):(orT (bs.length:Int) ps++[(bs.length:Int)]).getD i 0=(xO ps bs.length i:Int):=by
 have hl:=kz I;have K:=qBL I hi;rw[gD,aL (by rw[vB];omega)];unfold orT xO;rw[bK,gE Oo,<-gdR (d:=0) Oo];show(if ps.getD i 0<0 then (bs.length:Int) else ps.getD i 0)=_;by_cases e:ps.getD i 0<0;rw[fE e,fE e];rw[fF e,fF e];omega
theorem qI1(h:Trr tl k bs ps T){hd}:MsH (jV bs ps T) (orT (bs.length:Int) ps++[(bs.length:Int)]) hd (chT tl bs ps hd):=by
 have hl:=h.len;have⟨R,hR,hA⟩:=h.go;have a3:=kz h.par;have a4:∀i,i<bs.length->(orT (bs.length:Int) ps++[(bs.length:Int)]).getD i 0=(xO ps bs.length i:Int):=λi hi=>qEj h.par hi;have b7:=h.six;have b1:=h.few;have kid:∀i,i<=bs.length->zg (orT (bs.length:Int) ps++[(bs.length:Int)]) (chT tl bs ps hd) i=(kids (xO ps bs.length) i).map (chT tl bs ps hd):=λi hi=>qEh λj hj=>a4 j Oo;have vs:∀i,i<=bs.length->((jV bs ps T).getD i qA).vs=bs.getD i []:=λi hi=>(h.at hi).1.vs;have V:∀i,∀v∈bs.getD i [],0<=v/\v<6:=λi v hv=>O1 (h.inb i v hv)
 have cM:∀i,i<=bs.length->ChM (AnJ tl) (bs.getD i []) ((kids (xO ps bs.length) i).map (chT tl bs ps hd)) λj v=>Un (xO ps bs.length) bs.length (λi=>bs.getD i []) ((kids (xO ps bs.length) i).getD j 0) v:=λi hi=>qIx (vC h.par) h.rip hA (qIy λc v hv=>zu hv) (λc _=>V c) hi;have K:=λi=>by
  have:=je (b:=upR 6) ((h.asc i).imp λ{a b} h e=>Oo) λy hy=>uw.2 (V i y hy);rwa[zO]at this
 have a5:∀i,∀v∈shr (bs.getD i []) hd,0<=v/\v<(k:Int):=λi v hv=>h.inb i v (zu hv);have hdk:∀i,∀v∈(chT tl bs ps hd i).hd,0<=v/\v<(k:Int):=λi=>qEg a5 i;have a9:∀i,i<=bs.length->(chT tl bs ps hd i).hd.length<=1000:=λi hi=>bM (qHY (λi=>bM (dH _ _) (K i)) i) Oo;have a6:∀i,(chT tl bs ps hd i).hd=shr (bs.getD i []) hd++hds ((kids (xO ps bs.length) i).map (chT tl bs ps hd)) ((kids (xO ps bs.length) i).map (chT tl bs ps hd)).length:=λi=>by
  rw[qFn];exact kM (ow:=λi=>shr (bs.getD i _) _) i
 have a7:∀i,i<=bs.length->∀s x,yG (bs.getD i []) (chT tl bs ps hd i).sh (shr (bs.getD i []) hd) ((jV bs ps T).getD i qA).rows ((kids (xO ps bs.length) i).map (chT tl bs ps hd)) ((jV bs ps T).getD i qA).rows.length s x↔(chT tl bs ps hd i).Q s x:=λi hi s x=>by
  have t:=qHU (cM i hi) (h.asc i) (h.at hi).2 (ow:=shr _ hd) (sh:=(chT tl _ ps hd i).sh) (λv hv=>zu hv) (λv hv=>zu hv) s x;rw[<-a6 i]at t;exact t
 have M:∀i,∀(s:LI) (ks:LL),ks.Nodup->(∀a∈ks,(chT tl bs ps hd i).Q s a)->ks.length<=500000:=λi s ks h1 O=>h.fewA (hdk i) h1 λa ha=>by
  obtain⟨F,g1,-,g3⟩:=O a ha;exact⟨F,g1,g3⟩
 rw[show(bs.length:Int)=((bs.length:Nat):Int) from rfl];refine⟨by rw[hl,lA,vB,a3];rfl,Oo,λi hi=>?_,λi hi=>?_,λi hi=>?_,λi hi s a=>?_,λi hi=>?_,λi hi r hr q hq=>?_,λi hi r hr q hq ks h1 O=>?_,λi hi=>M i,λi hi n hn s ks h1 O=>?_⟩;all_goals(have I:i<=bs.length:=by rw[hl]at hi;omega)
 .by_cases e:i<bs.length;exact⟨xO _ _ i,a4 i e,by have:=(vC h.par i e).2;omega,by rw[vs i I,vs _ (vC h.par i e).2];rfl⟩;obtain rfl:i=bs.length:=Oo;refine⟨bs.length,?_,Oo,?_⟩;rw[gD,bQ (by rw[vB];omega),vB,a3,Nat.sub_self];rfl;rw[vs _ I,yu eA];show shr (bs.getD bs.length []) _=_;rw[yu eA];rfl
 refine⟨(h.at I).1.tab,λr hr x hx=>?_⟩;obtain⟨f,g1,rfl⟩:=((h.at I).2 r).1 hr;obtain⟨v,hv,rfl⟩:=cC.1 hx;exact h.val g1 (h.inb i v hv).1 (h.inb i v hv).2;rw[vs i I,kid i I];exact a6 i;rw[vs i I,kid i I];exact(a7 i I s a).symm;refine⟨⟨bM (dH _ _) (bM (K i) Dd),a9 i I⟩,λy hy=>V i y (zu hy),λy hy=>O1 (hdk i y hy)⟩;rw[kid i I]at hq |-;obtain⟨F,g1,rfl⟩:=((h.at I).2 r).1 hr;rw[vs i I,QY (h.asc i),Zm λv hv=>((cM i I).sh q hq v hv).1];exact⟨_,((cM i I).q q hq _ _).2 ⟨F,g1,rfl,rfl⟩⟩
 .rw[kid i I]at hq O;obtain⟨F,g1,rfl⟩:=((h.at I).2 r).1 hr;rw[vs i I,QY (h.asc i)]at O;refine h.fewA (X:=shr (bs.getD i []) hd++hds ((kids (xO ps bs.length) i).map (chT tl bs ps hd)) q) (λv hv=>?_) h1 λa ha=>?_
  .rcases cF.1 hv with hv|hv;exact a5 i v hv;have⟨j,g2,g3⟩:=(qCo hq).1 hv;obtain⟨j',-,g4⟩:=(cM i I).hd j Oo v g3;exact h.inb _ v g4
  obtain⟨G,g2,-,g3⟩:=(QX (cM i I) (λv hv=>zu hv) g1 q hq a).1 (O a ha);exact⟨G,g2,g3⟩
 rw[kid i I,vs i I]at O;exact M i s _ h1 λa ha=>(a7 i I s a).1 (qEi hn (O a ha))
section
variable {tl:List TbV} {k:Nat} {bs:LL} {ps:LI} {T:List TbV} {hd:LI}
theorem qHZ(h:0<=zK tl (upR k))(hb:∀y∈hd,0<=y/\y<(k:Int))r:r∈(qO tl (upR k)).map (qM hd)↔∃f,AnJ tl f/\hd.map f=r:=by
 have K:=jz (xL h).1 (uO k);rw[cC,(xL h).2];constructor;rintro⟨p,M,rfl⟩;have e:=jy (uO k) (jx p M);refine⟨vlF (upR k) p,(vz K _).1 (by rw[e];exact M),cV λy I=>?_⟩;have h1:=hb y I;have O:=jL (upR k) p y.toNat (uO _) (by rw[zO];omega);rw[qBO Oo,show((y.toNat:Nat):Int)=y by omega]at O;exact O;rintro⟨f,V,rfl⟩;exact⟨(upR k).map f,(vz K f).2 V,cV λy I=>qEf (hb y I).1 (hb y I).2⟩
theorem Y8{F}(h:∀v∈hd,v∈X/\0<=v/\v<6):qM hd (ky X F)=hd.map F:=by
 unfold qM;refine cV λv hv=>?_;have⟨I,K,M⟩:=h v hv;rw[Y6 Oo,show((v.toNat:Nat):Int)=v by omega,fE I]
theorem Trr.top(h:Trr tl k bs ps T)(I:∀y∈hd,0<=y/\y<(k:Int)):v∈(chT tl bs ps hd bs.length).hd↔v∈hd:=by
 constructor;exact qEg (ow:=λi=>shr (bs.getD i _) _) (P:=λv=>v∈hd) (λc v hv=>aN (cK.1 hv).2) _ v;intro hv;have⟨i,hi,hb⟩:=h.all v (I v hv).1 (I v hv).2;exact qHW (ow:=λi=>shr (bs.getD i _) _) (vC h.par) Oo (cK.2 ⟨hb,fD hv⟩)
theorem qHa(h:Trr tl k bs ps T)(M:∀y∈hd,0<=y/\y<(k:Int)){ss:LL}(hp:rows.Perm (ss.map (qM hd)))(hs:rows.Pairwise λa b=>¬cmpL b a<0)(hn:ss.Nodup)(hk:∀a,a∈ss↔(chT tl bs ps hd bs.length).Q [0,0,0,0,0,0] a):rows=srt ((qO tl (upR k)).map (qM hd)):=by
 have h6:=h.six;have O:∀v∈hd,v∈(chT tl bs ps hd bs.length).hd/\0<=v/\v<6:=λv hv=>⟨(h.top M).2 hv,O1 (M v hv)⟩;have hq:∀a,a∈ss↔∃F,AnJ tl F/\a=ky (chT tl bs ps hd bs.length).hd F:=λa=>(hk a).trans ⟨λ⟨F,I,_,K⟩=>⟨F,I,K⟩,λ⟨F,I,K⟩=>⟨F,I,by
  show _=ky (shr (bs.getD bs.length []) _) F;rw[yu eA];rfl,K⟩⟩
 have V:rows.Nodup:=by
  rw[hp.nodup_iff];refine List.pairwise_map.2 (List.Pairwise.imp_of_mem (λ{a b} ha hb hne e=>hne ?_) hn);obtain⟨F,I,rfl⟩:=(hq a).1 ha;obtain⟨G,h2,rfl⟩:=(hq b).1 hb;rw[Y8 O,Y8 O]at e;exact kL λv hv=>List.map_inj_left.1 e v ((h.top M).1 hv)
 have a3:SL rows:=(hs.and V).imp λ{a b} ⟨I,h2⟩=>by
  have e:=yU a b;rcases Int.lt_trichotomy (cmpL a b) 0 with K|K|K;exact K;exact absurd (cmpL_eq K) h2;omega
 refine SL.uniq a3 (zQ _ _ eA).1 λr=>?_;rw[(zQ _ _ eA).2,qHZ h.vis M,hp.mem_iff,cC];constructor;rintro⟨a,ha,rfl⟩;obtain⟨F,I,rfl⟩:=(hq a).1 ha;exact⟨F,I,(Y8 O).symm⟩;rintro⟨F,I,rfl⟩;exact⟨_,(hq _).2 ⟨F,I,rfl⟩,Y8 O⟩
end
theorem Y9:∀{n:Nat},0<qu v bs ps n->∃i,i<n/\v∈bs.getD i []
 |0,h=>by cases h
 |n+1,h=>by
  by_cases e:xI v bs ps n=true;refine⟨n,Oo,?_⟩;unfold xI at e;rw[bV]at e;exact aN e.1;have I:0<qu v bs ps n+if xI v bs ps n then 1 else 0:=h
  rw[fF e]at I;have⟨i,hi,hv⟩:=Y9 (n:=n) I;exact⟨i,Oo,hv⟩
theorem qFo{k}(h:qc k tl bs ps hs ws x=true)(hv:∀i,i<bs.length->0<=bgV tl (bs.getD i []))(hj:0<=zK tl (upR k.toNat))(K:∀t∈tl,Wf t.rows):Trr tl k.toNat bs ps (ZD tl bs):=by
 have⟨h0,h1,h2,h3,h4⟩:=zR h;have⟨m1,V,M,m4⟩:=Z6 h;obtain⟨k0,k6,-⟩:=xA h1;have O:∀i,∀v∈bs.getD i [],0<=v/\v<((k.toNat:Nat):Int):=λi v hv=>by
  by_cases e:i<bs.length;have I:=(h4 i e).1;unfold xU at I;rw[bV,bV]at I;have:=Qf I.1.2 I.2 hv;omega;rw[yu Oo]at hv;cases hv
 refine⟨hj,Oo,K,h2,qID h,O,λv v0 vk=>?_,V,qJW m1 V M,⟨_,qFC h hv,VX h hv⟩⟩;unfold uK at M;have h5:=aN (aT.1 M v.toNat (cJ.2 Oo));rw[show((v.toNat:Nat):Int)=v by omega]at h5;exact Y9 (Nat.lt_of_lt_of_eq Nat.zero_lt_one h5.symm)
theorem qHb(I:0<=zK tl (upR k))(h6:k<=6)(hl:tl.length<=8)(K:∀t∈tl,qW t=true)(O:∀t∈tl,Wf t.rows):Trr tl k [upR k] [-1] ([⟨upR k,qO tl (upR k),zJ (qO tl (upR k)).length⟩]++[ZA tl]):=by
 have V:=jz (xL I).1 (uO k);have e1:∀i,([upR k]:LL).getD (i+1) []=[]:=λi=>rfl;refine⟨I,h6,O,Ss,λi=>?_,λi v hv=>?_,λv v0 vk=>⟨0,Ss,uw.2 ⟨v0,vk⟩⟩,rfl,λj I l h1 h2 v h3 h4=>?_,⟨λi=>if i=0 then qO tl (upR k) else yt tl,⟨rfl,λi hi=>?_,λi hi r hr=>?_,λf hf i hi=>?_⟩,λF=>?_⟩⟩
 .match i with
  |0=>exact uO k
  |i+1=>exact List.Pairwise.nil
 .match i with
  |0=>exact uw.1 hv
  |i+1=>cases hv
 obtain⟨l',rfl⟩:∃l',l=l'+1:=⟨l-1,Oo⟩;rw[e1]at h4;cases h4
 .match i,hi with
  |0,_=>exact row_one I (Vz k Oo)
  |1,_=>exact row_one (qBM K hl) rfl
  |i+2,hi=>simp at hi
 .match i,hi with
  |0,_=>exact hr
  |1,_=>exact hr
  |i+2,hi=>simp at hi
 .match i,hi with
  |0,_=>
   show(upR k).map f∈qO tl (upR k);rw[(xL I).2];exact(vz V f).2 hf
  |1,_=>exact(ZB K hl f).2 λt ht _=>hf t ht
  |i+2,hi=>simp at hi
 constructor;intro h;have h0:(upR k).map F∈qO tl (upR k):=h 0 Ss;rw[(xL I).2]at h0;exact(vz V F).1 h0;intro h l M;match l,M with
 |0,_=>
  show(upR k).map F∈qO tl (upR k);rw[(xL I).2];exact(vz V F).2 h
 |1,_=>exact(ZB K hl F).2 λt ht _=>h t ht
 |l+2,M=>simp at M
open Go.Maps
def At(W:World)(i:Nat)(o:Obj):Prop:=W.1[i]?=some o
theorem At.new{c:AV}{t}(h:i=w.1.size):At (w.alloc (.cells c t)) i (.cells c t (0,0)):=by rw[h];exact eO
theorem At.newM(h:i=w.1.size):At (w.alloc (.map #[] 0)) i (.map #[] 0):=by rw[h];exact eO
theorem At.lt(h:At W i o):i<W.1.size:=(dK.1 h).1
theorem At.bel(h:At W i o)(hb:Bl W W'):At W' i o:=(hb.block i h.lt).trans h
theorem At.al(h:At W i o)I:At (W.alloc I) i o:=h.bel (aK)
theorem At.dr(h:At W i o):At W.drew i o:=h
theorem qHd(h:At W be (.map #[] 0)):En W B be (λ_ _=>False) [] (.map []):=by
 obtain⟨w0,hs⟩:∃w0:World,w0.1.size=be:=⟨{ W with heap:=W.1.extract 0 be },by have:=h.lt;simp;omega⟩;have I:=En.start (B:=B) w0;have K:(w0.alloc (.map #[] 0)).1[w0.1.size]?=some (.map #[] 0):=eO;rw[hs]at I K;exact I.move (Eq.trans h K.symm) (λe M=>by cases M)
abbrev msZ:Obj:=.cells #[.nilIface,sn,sn,.map none] 146 (0,0)
theorem At.msg(h:At W p msZ):W.cell? (az p 0)=some .nilIface/\W.cell? (az p 1)=some sn/\W.cell? (az p 2)=some sn/\W.cell? (az p 3)=some (.map none)/\W.frozen? (az p 0)=false/\W.frozen? (az p 1)=false/\W.frozen? (az p 2)=false/\W.frozen? (az p 3)=false:=by
 unfold At at h;refine⟨?_,?_,?_,?_,?_,?_,?_,?_⟩;rw[eI h];rfl;rw[eI h];rfl;rw[eI h];rfl;rw[eI h];rfl;all_goals(unfold World.frozen?;rw[h];simp)
theorem At.msgA(h:At W p msZ):(∀o,(W.alloc o).cell? (az p 0)=some .nilIface)/\(∀o,(W.alloc o).cell? (az p 1)=some sn)/\(∀o,(W.alloc o).cell? (az p 2)=some sn)/\(∀o,(W.alloc o).cell? (az p 3)=some (.map none))/\(∀o,(W.alloc o).frozen? (az p 0)=false)/\(∀o,(W.alloc o).frozen? (az p 1)=false)/\(∀o,(W.alloc o).frozen? (az p 2)=false)/\∀o,(W.alloc o).frozen? (az p 3)=false:=
 ⟨λo=>(h.al o).msg.1,λo=>(h.al o).msg.2.1,λo=>(h.al o).msg.2.2.1,λo=>(h.al o).msg.2.2.2.1,λo=>(h.al o).msg.2.2.2.2.1,λo=>(h.al o).msg.2.2.2.2.2.1,λo=>(h.al o).msg.2.2.2.2.2.2.1,λo=>(h.al o).msg.2.2.2.2.2.2.2⟩
theorem qI4{X n1 n2}{xs ys:LV}(K:w1.ownsRow I 3 1 v1 n1 xs)(M:w2.ownsRow X.1.size 3 1 v2 n2 ys)(hb:Bl w1 X):ApW v1 v2:=λg O V=>by
 have:=(K.lt g O).2;have:=(M.lt g V).1;have:=hb.size;omega
structure Mm(W5 W:World)(pm be:Nat)(s1 s2:Value)(sh ow:LI):Prop where
 bel:Bl W5 W
 pm5:W5.1.size<=pm
 be5:W5.1.size<=be
 mb:MgB W pm be s1 s2
 o1:W.ownsRow W5.1.size 3 1 s1 sh.length (sh.map ai)
 o2:W.ownsRow W5.1.size 3 1 s2 ow.length (ow.map ai)
 ap:ApW s1 s2
 en:∀B,En W B be (λ_ _=>False) [] (.map [])
theorem qAK(hb:Bl W5 W)(I:MgB W pm be s1 s2)(K:At W be (.map #[] 0))(M:W5.1.size<=pm)(b5:W5.1.size<=be)(o1:W.ownsRow W5.1.size 3 1 s1 sh.length (sh.map ai))(o2:W.ownsRow W5.1.size 3 1 s2 ow.length (ow.map ai))(ap:ApW s1 s2):Mm W5 W pm be s1 s2 sh ow:=⟨hb,M,b5,I,o1,o2,ap,λ_=>qHd K⟩
theorem set4(hb:Bl W5 Y)(K:At Y pm msZ)(p5:W5.1.size<=pm):Bl W5 ((((Y.setCell (az pm 0) (.iface 68 (.agg #[]))).setCell (az pm 1) s1).setCell (az pm 2) s2).setCell (az pm 3) (.map (some be)))/\MgB ((((Y.setCell (az pm 0) (.iface 68 (.agg #[]))).setCell (az pm 1) s1).setCell (az pm 2) s2).setCell (az pm 3) (.map (some be))) pm be s1 s2/\(∀{x:Value} {n:Nat} {xs:LV},Y.ownsRow W5.1.size 3 1 x n xs->((((Y.setCell (az pm 0) (.iface 68 (.agg #[]))).setCell (az pm 1) s1).setCell (az pm 2) s2).setCell (az pm 3) (.map (some be))).ownsRow W5.1.size 3 1 x n xs)/\∀k,k≠pm->((((Y.setCell (az pm 0) (.iface 68 (.agg #[]))).setCell (az pm 1) s1).setCell (az pm 2) s2).setCell (az pm 3) (.map (some be))).1[k]?=Y.1[k]?:=by
 have I:∀k,k≠pm->((((sC Y pm 0 (.iface 68 (.agg #[]))).setCell (az pm 1) s1).setCell (az pm 2) s2).setCell (az pm 3) (.map (some be))).1[k]?=Y.1[k]?:=λk I=>
  (eG I).trans ((eG I).trans ((eG I).trans (eG I)))
 have M:∃cur,Y.1[pm]?=some (.cells cur 146 (0,0)):=⟨_,K⟩;refine⟨⟨hb.os,hb.tape,hb.output,by simp only[World.size_setCell];exact hb.size,λk h=>(I k Oo).trans (hb.block k h)⟩,?_,λ{x n xs} o1=>qD o1 λg O=>I g λe=>Xq o1 M Dd (by rw[<-e];exact O.symm),I⟩;unfold At at K;have e3:=bI _ _ 3 _ _ (.map (some be)) (bI _ _ 2 _ _ s2 (bI _ _ 1 _ _ s1 (bI _ _ 0 _ _ (.iface 68 (.agg #[])) K)));unfold MgB;rw[e3];rfl
section
variable {W5 Y:World} {pm be:Nat} {s1 s2:Value} {sh ow:LI}
theorem mmA(hb:Bl W5 Y)(K:At Y pm msZ)(I:At Y be (.map #[] 0))(M:W5.1.size<=pm)(b5:W5.1.size<=be)(o1:Y.ownsRow W5.1.size 3 1 s1 sh.length (sh.map ai))(o2:Y.ownsRow W5.1.size 3 1 s2 ow.length (ow.map ai))(ap:ApW s1 s2):Mm W5 ((((Y.setCell (az pm 0) (.iface 68 (.agg #[]))).setCell (az pm 1) s1).setCell (az pm 2) s2).setCell (az pm 3) (.map (some be))) pm be s1 s2 sh ow:=by
 have⟨V,h2,O,h4⟩:=set4 (be:=be) (s1:=s1) (s2:=s2) hb K M;refine qAK V h2 ((h4 _ λe=>?_).trans I) M b5 (O o1) (O o2) ap;unfold At at K I;rw[e,K]at I;cases I
theorem mmC(hb:Bl W5 Y)(I:pm=Y.1.size)(K:At Y be (.map #[] 0))(b5:W5.1.size<=be)(o1:Y.ownsRow W5.1.size 3 1 s1 sh.length (sh.map ai))(o2:Y.ownsRow W5.1.size 3 1 s2 ow.length (ow.map ai))(ap:ApW s1 s2):Mm W5 (Y.alloc (.cells #[.iface 68 (.agg #[]),s1,s2,.map (some be)] 146)) pm be s1 s2 sh ow:=by
 subst I;exact qAK (qC hb _) eO (K.al _) hb.size b5 (o1.alloc _) (o2.alloc _) ap
theorem mmD(hb:Bl W5 Y)(I:pm=Y.1.size)(K:be=Y.1.size+1)(o1:Y.ownsRow W5.1.size 3 1 s1 sh.length (sh.map ai))(o2:Y.ownsRow W5.1.size 3 1 s2 ow.length (ow.map ai))(ap:ApW s1 s2):Mm W5 ((Y.alloc (.cells #[.iface 68 (.agg #[]),s1,s2,.map (some be)] 146)).alloc (.map #[] 0)) pm be s1 s2 sh ow:=by
 subst I;exact qAK (qC (qC hb _) _) (MgB.move (W:=aJ Y #[.iface _ _,s1,s2,.map (some be)] _) eO (eL Ss)) (At.newM (by rw[K];simp)) hb.size (O1 hb.size) ((o1.alloc _).alloc _) ((o2.alloc _).alloc _) ap
end
theorem RgS.low{lo v}(h:RgS w0 W lo v n)(hl:I<=lo):RgS w0 W I v n:=by
 have⟨a,cap,e,K⟩:=h;refine⟨a,cap,e,K.imp id ?_⟩;rintro⟨b,o,M,O,V⟩;refine⟨b,o,M,bM hl O,λj hj=>?_⟩;have⟨aa,na,ca,m,g1,g2,g3,g4,g5⟩:=V j hj;exact⟨aa,na,ca,m,g1,g2,g3,bM hl g4,g5⟩
theorem qFp{i es e}(h:e∈yN ps i es es.length):e∈es:=by
 obtain⟨j,I,rfl⟩:=cC.1 h;exact qz (cJ.1 (cK.1 I).1)
def SgQ(pm be:Nat)(s2:Value)(k:Nat):Prop:=k=pm\/k=be\/s2.ownBlock=some k
section
variable {W5 W6 W W8:World} {pm be:Nat} {s1 s2:Value} {sh ow:LI}
theorem Mm.not(h:Mm W5 W6 pm be s1 s2 sh ow)(I:s1.ownBlock=some g):¬SgQ pm be s2 g:=by
 rintro (e|e|e);exact xn h.o1 h.mb (by rw[<-e];exact I.symm);exact QM h.o1 (h.en 0).map (by rw[<-e];exact I.symm);exact h.ap g I e
theorem Mm.inS(h:Mm W5 W6 pm be s1 s2 sh ow):∀k,SgQ pm be s2 k->W5.1.size<=k/\k<W6.1.size:=by
 rintro k (rfl|rfl|e);exact⟨h.pm5,h.mb.cells.2.2.2.2.2⟩;exact⟨h.be5,(h.en 0).map.lt⟩;exact h.o2.lt k e
theorem Mm.ga(h:Mm W5 W6 pm be s1 s2 sh ow)(I:Bl W6 W){v0 vr t nr cs}(hT:IT W5 v0 v1 v2 t.vs t.rows t.ws)(M:qW t=true)(O:Wf t.rows)(hr:RgS W5 W W6.1.size vr nr)(V:nr<=1000)(hm:MsS W5 W W6.1.size vb cs)(hc:cs.length<=20)(a3:sh.length<=1000/\∀y∈sh,0<=y/\y<6):
 Ga W5 W (SgQ pm be s2) W5.1.size W6.1.size pm be v0 v1 v2 vr vb s1 s2 t.vs t.rows t.ws nr cs sh ow/\Gs W W (SgQ pm be s2) W5.1.size pm be s1 s2 s2 ow [] (λ_ _=>False) [] (.map []):=by
 have o1:=qB h.o1 I;have o2:=qB h.o2 I;refine⟨⟨bt h.bel I,⟨eA,I.size⟩,h.inS,Or.inl rfl,Or.inr (Or.inl rfl),λg K=>Or.inr (Or.inr K),hT,M,O,hr,V,hm,hc,λW' hK=>qN (qD o1 λg K=>hK.block g (o1.lt g K).2 (h.not K)),a3⟩,⟨Kg.refl _ _,h.mb.move (I.block _ h.mb.cells.2.2.2.2.2),⟨by rw[dU];exact o2,qN o2,λg K=>Or.inl (Or.inr (Or.inr K)),?_⟩,(h.en W.1.size).bel I⟩⟩;rcases o2.2 with ⟨e,V⟩|⟨g,cap,cur,e,-⟩;exact Or.inl ⟨e,dV.1 V⟩;refine Or.inr ⟨g,cap,e,(o2.lt g (by rw[e];rfl)).2,λe2=>xn h.o2 h.mb (by rw[e,<-e2];rfl)⟩
theorem Mm.sent(h:Mm W5 W6 pm be s1 s2 sh ow)(K:Bl W6 W){v L Q es D c}(g:Gs W W8 (SgQ pm be s2) W5.1.size pm be s1 s2 v ow L Q es D)(hB:B<=W5.1.size)(M:c.sh=sh)(O:c.hd=ow++L)(V:∀s a,c.Q s a↔Q s a)(hl:(c.sh.length<=1000/\c.hd.length<=1000)/\(∀y∈c.sh,0<=y/\y<6)/\∀y∈c.hd,0<=y/\y<6):
 Bl W5 W8/\Fz B (λX=>ChA X s1 v be c) W8:=by
 have o1:=qB h.o1 K;have I:=qD o1 λq hq=>g.kg.block q (o1.lt q hq).2 (h.not hq);have ho:=g.hd.own;rw[<-O]at ho;rw[<-M]at I;refine⟨g.kg.below (bt h.bel K) (by have:=h.bel.size;have:=K.size;omega) λk hk=>(h.inS k hk).1,qI0 I ho (g.en.congr V) hB hB ?_ (bM hB h.be5) hl.1 hl.2.1 hl.2.2⟩;have:=h.bel.size;have:=K.size;omega
end
open Meet
structure TreX(w0 W:World)(T:List TbV)(pr hl:LI)(x0 x1 x2:Value):Prop where
 tb:∃rl,TBs W w0.1.size x0 rl/\rl.map tvB=T
 pa:W.ownsRow w0.1.size 3 1 x1 pr.length (pr.map ai)
 ho:W.ownsRow w0.1.size 3 1 x2 hl.length (hl.map ai)
 bel:Bl w0 W
theorem TreX.below(h:TreX w0 W T pr hl x0 x1 x2)(hb:Bl W W'):TreX w0 W' T pr hl x0 x1 x2:=by
 have⟨rl,I,K⟩:=h.tb;exact⟨⟨rl,I.below hb,K⟩,qB h.pa hb,qB h.ho hb,bt h.bel hb⟩
theorem TreE.set{rl}(h:TreE w0 w vb rl tl ps hs W x0 x1 x2)(K:∃cur,W.1[r]?=some (.cells cur 93 (0,0)))(M:w0.1.size<=r)y0 y1 y2:
 TreX w0 (((W.setCell (az r 0) y0).setCell (az r 1) y1).setCell (az r 2) y2) (rl.map tvB++[ZA tl]) (orT rl.length ps++[(rl.length:Int)]) (orT rl.length hs) x0 x1 x2:=by
 have hX1:=qU (o:=0) (v:=y0) K;have I:=qU (o:=1) (v:=y1) hX1;have⟨rl',O,V⟩:=h.tb;refine⟨⟨rl',((O.setX K Dd Dd Dd).setX hX1 Dd Dd Dd).setX I Dd Dd Dd,V⟩,?_,?_,((h.bel.setCell M _).setCell M _).setCell M _⟩;have:=qI (off:=2) (y:=y2) (qI (qI h.pa K Dd) hX1 Dd) I Dd;rw[lA,vB];exact this;have:=qI (off:=2) (y:=y2) (qI (qI h.ho K Dd) hX1 Dd) I Dd;rw[vB];exact this
theorem At.is1{x}(h:At W p (.cells #[ai x] 3 (0,0))):IS W (sZ p 0 1 1) [x]:=⟨_,1,rfl,Or.inr ⟨p,0,rfl,λj I=>by
 obtain rfl:j=0:=by simp at I;exact I
 rw[eI h];rfl⟩⟩
theorem At.isN(h:At W p (.cells (madeCells (ai 0).cells (n*1)) 3 (0,0))):IS W (sZ p 0 n n) (List.replicate n 0):=by
 refine⟨_,n,by rw[dT],?_⟩;refine Or.inr ⟨p,0,rfl,λj I=>?_⟩;rw[dT]at I;rw[eI h,gdR (by rw[dT];exact I),List.getElem_replicate];unfold madeCells;simp[Value.cells,I,Nat.mod_one]
theorem At.row3{t:TbR}(h:At W g (.cells #[t.v0,t.v1,t.v2] 58 (0,0)))(hB:B<=g):W.ownsRow B 58 3 (sZ g 0 1 1) 1 [t.v0,t.v1,t.v2]:=
 ⟨rfl,Or.inr ⟨g,1,_,rfl,hB,h,eA,by unfold maxLen;decide,rfl,rfl⟩⟩
theorem At.fr{X}(h:At W p o)(I:FrB W vb X)(K:vb.ownBlock≠some p):At X p o:=(I p h.lt K).trans h
theorem qAL w(k:Nat){us}(hw:Bl w0 w)(h:ITs w0 vt tl)(hl:tl.length<=7)(d2:∀t∈tl,qW t=true)(hk:k<=6)(hj:RQ w w0.1.size vj us rows)(hn:rows.length<=10000):
 Cl 66 #[ai (k:Int),vt,vj] w λe w'=>∃(q0:OA) (m0 z0:Nat) (q1:OA) (m1 z1:Nat) (q2:OA) (m2 z2:Nat),e=.returned (.agg #[.slice q0 m0 z0,.slice q1 m1 z1,.slice q2 m2 z2])/\TreX w0 w' ([⟨upR k,rows,zJ rows.length⟩]++[ZA tl]) (orT 1 [-1]++[1]) (orT 1 (List.replicate tl.length 0)) (.slice q0 m0 z0) (.slice q1 m1 z1) (.slice q2 m2 z2)/\Bl w w':=by
 obtain⟨i0,hi,d8,d3,d9⟩:=info_parts Tryz.infoInt;have g6:Tryz.prog.follows .mixedOrders=true:=Kl;obtain⟨M,kj,rfl⟩:=hj.sl;obtain⟨e3,e4,rfl,-⟩:=id h;have HJ:=ay hj;have HH:=ay h;have HL:=ay hl;have e5:=ay d2;have a4:=ay hw;have g8:=ay hn;have KV:Hh (∀W,Cl 63 #[ai (k:Int)] W λe w'=>∃a c,e=.returned (.slice a k c)/\w'.ownsRow W.1.size 3 1 (.slice a k c) (upR k).length ((upR k).map ai)/\Bl W w'):=ay λW=>(uN W k Oo).mono (by
  rintro e w' ⟨v,rfl,ho,hb⟩;obtain⟨a,c,e0⟩:=qG ho;subst e0;rw[zO]at ho |-;exact⟨a,c,rfl,ho,hb⟩)
 have KP:Hh (∀W a c,IS W (.slice a k c) (upR k)->Cl 86 #[.slice a k c,.slice M rows.length kj] W λe w'=>∃p0 c0 I c2,e=.returned (.agg #[.slice p0 k c0,.slice M rows.length kj,.slice I rows.length c2])/\w'.ownsRow W.1.size 3 1 (.slice p0 k c0) (upR k).length ((upR k).map ai)/\w'.ownsRow W.1.size 3 1 (.slice I rows.length c2) rows.length (List.replicate rows.length (ai 1))/\Ap' (.slice p0 k c0) (.slice I rows.length c2)/\Bl W w'):=ay λW a c hi=>(yR W _ _ _ _ hi ⟨M,kj,rfl⟩ (by rw[zO];omega) Oo).mono (by
  rintro e w' ⟨x0,x2,rfl,h1,h2,h3,h4⟩;obtain⟨p0,c0,e0⟩:=qG h1;obtain⟨I,c2,e2⟩:=qG h2;subst e0 e2;rw[zO]at h1 h3 |-;exact⟨p0,c0,I,c2,rfl,h1,h2,h3,h4⟩)
 have d4:Hh ((zJ rows.length).map ai=List.replicate rows.length (ai 1)/\(zJ rows.length).length=rows.length):=ay (by unfold zJ;simp);obtain⟨W1,a5⟩:=Ex (w.alloc (.cells #[sn,sn,sn] 93));have e6:Hh (Bl w W1):=ay (by rw[a5];exact(bJ _ _).alloc (nR _) _);have d5:Hh (Bx3 93 W1 w.1.size sn sn sn):=ay (by rw[a5];exact Bx3.made _ _ _ _ _);clear h hl d2 hw hj hn;generalize hnr:rows.length=nr at *;generalize b9:tl.length=O at *;have e7:=ay b9;clear hnr b9;go_enter func66,ntmps66;go_upto_region 1 with fail;rw[<-a5];clear a5;go_upto_region 2 with (first|go_at_call 63;apply (KV.o W1).mono;rintro e w2 ⟨a2,g9,rfl,c7,a6⟩|go_at_call 86;apply (KP.o w2 _ _ (qN (by rw[zO]at c7 |-;exact c7))).mono;rintro e w3 ⟨p0,c0,I,c2,rfl,h1,h2,h3,c8⟩);have a7:Bl w3 (w3.alloc (.cells #[.slice p0 k c0,.slice M nr kj,.slice I nr c2] 58)):=aK;have d6:=TX.made w3 (.slice p0 k c0) (.slice M nr kj) (.slice I nr c2);have e8:Hh ((w3.alloc (.cells #[.slice p0 k c0,.slice M nr kj,.slice I nr c2] 58)).1.size=w3.1.size+1):=ay (World.size_alloc _ _);generalize w3.alloc (.cells #[.slice p0 k c0,.slice M nr kj,.slice I nr c2] 58)=W4 at *;have c9:Hh (Bl w2 W4):=ay (bt c8 a7);have d0:Hh (Bl w w2):=ay (bt e6 a6);have d1:=ay (d5.o.below (bt a6 c9));have V:=ay d6;have e9:w0.1.size<=w.1.size:=a4.o.size;have h0:w.1.size<w3.1.size:=by have:=d5.o.lt;have:=a6.size;have:=c8.size;omega
 have b8:Hh (TWr W4 w0.1.size ⟨.slice p0 k c0,.slice M nr kj,.slice I nr c2,us,upR k,rows,zJ nr⟩):=ay (by
  have s2:=d0.o.size;refine⟨qE (qB h1 a7) Oo,HJ.o.below (bt d0 c9),?_,h3,λi hi g e1 e2=>?_,λi hi g e1 e2=>?_⟩;show W4.ownsRow w0.1.size 3 1 (.slice I nr c2) (zJ nr).length ((zJ nr).map ai);rw[d4.o.1,d4.o.2];exact qE (qB h2 a7) Oo;have:=((HJ.o.each i hi).lt g e1).2;have:=(h1.lt g e2).1;omega;have:=((HJ.o.each i hi).lt g e1).2;have:=(h2.lt g e2).1;omega)
 have KT:Hh (∀(X:World) (gb gp gh:Nat),Bl W4 X->At X gb (.cells #[.slice p0 k c0,.slice M nr kj,.slice I nr c2] 58 (0,0))->At X gp (.cells #[ai (-1)] 3 (0,0))->At X gh (.cells (madeCells (ai 0).cells (O*1)) 3 (0,0))->W4.1.size<=gb->Cl 67 #[sZ gb 0 1 1,.slice e3 O e4,.agg #[sn,sZ gp 0 1 1,sZ gh 0 O O,sn,ai 0,ai 0]] X λe w'=>∃(q0:OA) (m0 z0:Nat) (q1:OA) (m1 z1:Nat) (q2:OA) (m2 z2:Nat),e=.returned (.agg #[.slice q0 m0 z0,.slice q1 m1 z1,.slice q2 m2 z2])/\(∀y0 y1 y2,TreX w0 (((w'.setCell (az w.1.size 0) y0).setCell (az w.1.size 1) y1).setCell (az w.1.size 2) y2) ([⟨upR k,rows,zJ nr⟩]++[ZA tl]) (orT 1 [-1]++[1]) (orT 1 (List.replicate O 0)) (.slice q0 m0 z0) (.slice q1 m1 z1) (.slice q2 m2 z2)/\Bl w (((w'.setCell (az w.1.size 0) y0).setCell (az w.1.size 1) y1).setCell (az w.1.size 2) y2))/\TX w' w3.1.size (.slice p0 k c0) (.slice M nr kj) (.slice I nr c2)/\Bx3 93 w' w.1.size sn sn sn):=ay λX gb gp gh hX hb' a8 a9 h5=>by
  have f7:(sZ gb 0 1 1).ownBlock≠some gp:=λe=>by
   obtain rfl:gb=gp:=Option.some.inj e;unfold At at hb' a8;rw[hb']at a8;simp at a8
  have f8:(sZ gb 0 1 1).ownBlock≠some gh:=λe=>by
   obtain rfl:gb=gh:=Option.some.inj e;unfold At at hb' a9;rw[hb']at a9;simp at a9
  have hw4:Bl w W4:=bt d0 c9;have K:=ZJ X 0 0 0 0 (bt a4 (bt hw4 hX)) HH (by rw[e7.o];exact HL) e5 ⟨none,0,rfl⟩ ⟨none,0,rfl⟩ (λW hF=>(a8.fr hF f7).is1) (λW hF=>(a9.fr hF f8).isN) Ss (by rw[dT];have:=HL.o;omega) ⟨At.row3 hb' (O1 hw4.size),λt ht=>by rw[cI.1 ht];exact TW.below b8 hX,List.pairwise_singleton _ _⟩ Ss;apply K.mono;rintro e w' ⟨q0,m0,z0,q1,m1,z1,q2,m2,z2,rfl,hE⟩;have h6:W4.1.size=w3.1.size+1:=e8;have b1:∀j,j<W4.1.size->w'.1[j]?=W4.1[j]?:=λj hj=>(hE.fr j (O1 hX.size) (λe=>by
   obtain rfl:gb=j:=Option.some.inj e;omega)).trans (hX.block j hj)
  have f9:Bl w w':=⟨hE.bel.os.trans a4.o.os.symm,hE.bel.tape.trans a4.o.tape.symm,hE.bel.output.trans a4.o.output.symm,by
   have h9:w3.1.size<w'.1.size:=(dK.1 ((b1 _ V.o.lt).trans V.o.blk)).1;omega,λj hj=>(b1 j Oo).trans (hw4.block j hj)⟩
  have d7:Bx3 93 w' w.1.size sn sn sn:=⟨(b1 _ d1.o.lt).trans d1.o.blk⟩;exact⟨q0,m0,z0,q1,m1,z1,q2,m2,z2,rfl,λy0 y1 y2=>⟨hE.set d7.typ e9 _ _ _,((f9.setCell (nR _) _).setCell (nR _) _).setCell (nR _) _⟩,⟨(b1 _ V.o.lt).trans V.o.blk⟩,d7⟩
 have HS:Hh (∀W,Bl W4 W->W.cell? (az w3.1.size 0)=some (.slice p0 k c0)/\W.cell? (az w3.1.size 1)=some (.slice M nr kj)/\W.cell? (az w3.1.size 2)=some (.slice I nr c2)):=ay λW hW=>⟨(V.o.below hW).c0,(V.o.below hW).c1,(V.o.below hW).c2⟩;have g4:Hh (∀(W:World) (y0 y1 y2:Value),TX W w3.1.size (.slice p0 k c0) (.slice M nr kj) (.slice I nr c2)->(((W.setCell (az w.1.size 0) y0).setCell (az w.1.size 1) y1).setCell (az w.1.size 2) y2).cell? (az w3.1.size 0)=some (.slice p0 k c0)/\(((W.setCell (az w.1.size 0) y0).setCell (az w.1.size 1) y1).setCell (az w.1.size 2) y2).cell? (az w3.1.size 1)=some (.slice M nr kj)/\(((W.setCell (az w.1.size 0) y0).setCell (az w.1.size 1) y1).setCell (az w.1.size 2) y2).cell? (az w3.1.size 2)=some (.slice I nr c2)):=ay λW y0 y1 y2 h=>by
  have hx:TX (((W.setCell (az w.1.size 0) y0).setCell (az w.1.size 1) y1).setCell (az w.1.size 2) y2) w3.1.size (.slice p0 k c0) (.slice M nr kj) (.slice I nr c2):=⟨(eG (by show w3.1.size≠w.1.size;omega)).trans ((bD _ _ _ _ (by show w3.1.size≠w.1.size;omega)).trans ((bD _ _ _ _ (by show w3.1.size≠w.1.size;omega)).trans h.blk))⟩;exact⟨hx.c0,hx.c1,hx.c2⟩
 have mk:∀W:World,Sem.run Tryz.prog (Instr.makeSlice 24 (ai (O:Int)) (ai (O:Int))) W=.ok (sZ W.1.size 0 O O) (W.alloc (.cells (madeCells (ai 0).cells (O*1)) 3)):=λW=>by
  have b9:=HL.o;have:=run_makeSlice W 24 3 _ _ underlying24 hi d8 .i64 .i64 O O Oo Oo (by rw[d3];omega) (by rw[d9];omega) Oo;rw[d3]at this;simpa using this
 have g7:w.1.size<W4.1.size:=d1.o.lt;clear d6 h1 h2 h3 a7 c8 a6 c7 b8;generalize madeCells (ai 0).cells (O*1)=MC at *;first
  |go_region_held_law (λW=>W.cell? (az w3.1.size 0)=some (.slice p0 k c0)/\W.cell? (az w3.1.size 1)=some (.slice M nr kj)/\W.cell? (az w3.1.size 2)=some (.slice I nr c2))
   (first
    |(refine HS.o _ ?_;(repeat(with_reducible first|exact bJ _ _|refine qT ?_|refine qC ?_ _));done)
    |with_reducible exact⟨b7.c0,b7.c1,b7.c2⟩
    |with_reducible exact g4.o _ _ _ _ b7
    |fail)
   (first
    |(go_simp;go_at_call 67;(with_reducible refine(KT.o _ _ _ _ (by(repeat(with_reducible first|exact bJ _ _|refine qT ?_|refine qC ?_ _))) (by(repeat(first|with_reducible refine At.dr ?_|(with_reducible refine At.new ?_);(first|rfl|simp;done)|with_reducible refine At.al ?_ _))) (by(repeat(first|with_reducible refine At.dr ?_|(with_reducible refine At.new ?_);(first|rfl|simp;done)|with_reducible refine At.al ?_ _))) (by(repeat(first|with_reducible refine At.dr ?_|(with_reducible refine At.new ?_);(first|rfl|simp;done)|with_reducible refine At.al ?_ _))) (by(first|exact nR _|omega|simp;omega))).mono ?_);rintro e w5 ⟨q0,m0,z0,q1,m1,z1,q2,m2,z2,rfl,g5,b7,a3⟩;have t0:=a3.c0;have t1:=a3.c1;have t2:=a3.c2;have f0:=a3.free 0;have f1:=a3.free 1;have f2:=a3.free 2)
    |fail)
  |fail
 all_goals go_wp2_with fail
 all_goals refine bodyPost_ret (v:=.agg #[.slice q0 m0 z0,.slice q1 m1 z1,.slice q2 m2 z2]) (by simp[results,results66,go_sem,t0,t1,t2]) rfl ?_
 all_goals exact⟨_,_,_,_,_,_,_,_,_,rfl,g5 _ _ _⟩
theorem TreX.set(h:TreX w0 W T pr hl x0 x1 x2)(K:∃cur,W.1[r]?=some (.cells cur 93 (0,0)))(M:w0.1.size<=r)y0 y1 y2:TreX w0 (((W.setCell (az r 0) y0).setCell (az r 1) y1).setCell (az r 2) y2) T pr hl x0 x1 x2:=by
 have hX1:=qU (o:=0) (v:=y0) K;have I:=qU (o:=1) (v:=y1) hX1;have⟨rl',O,V⟩:=h.tb;exact⟨⟨rl',((O.setX K Dd Dd Dd).setX hX1 Dd Dd Dd).setX I Dd Dd Dd,V⟩,qI (qI (qI h.pa K Dd) hX1 Dd) I Dd,qI (qI (qI h.ho K Dd) hX1 Dd) I Dd,((h.bel.setCell M _).setCell M _).setCell M _⟩
def JtE(w0:World)(tl:List TbV)(k:Nat)(w':World)(x0 x1 x2:Value):Prop:=∃bs ps T hl,Trr tl k bs ps T/\hl.length=tl.length/\TreX w0 w' T (orT (bs.length:Int) ps++[(bs.length:Int)]) hl x0 x1 x2
theorem YA{k}(h:whJ k tl bs ps hs ws x=true):qc k tl bs ps hs ws x=true/\0<=zK tl (upR k.toNat):=by
 unfold whJ at h;rw[bV,dE]at h;refine⟨?_,h.2⟩;unfold qc;rw[h.1,Bool.and_true];exact aT.2 (QH (xL h.2).1).2.1
theorem YB w0 w vj k x y us(hw:Bl w0 w)(h:ITs w0 vt tl)(hl:tl.length<=1048576)(hs':∀t∈tl,TvS t)(hp:IPl w0 v0 v1 v2 v3 bs ps hs ws)(d0:qS bs)(d1:ps.length<=1099511627776)(b7:∀t∈tl,Wf t.rows)(b8:whJ k tl bs ps hs ws (x,y)=true)(hj:RQ w w0.1.size vj us (qO tl (upR k.toNat))):
 Cl 50 #[ai k,vt,.agg #[v0,v1,v2,v3,ai x,ai y],vj] w λe w'=>∃(K:OA) (M z0:Nat) (O:OA) (V z1:Nat) (q2:OA) (m2 z2:Nat),e=.returned (.agg #[.slice K M z0,.slice O V z1,.slice q2 m2 z2])/\JtE w0 tl k.toNat w' (.slice K M z0) (.slice O V z1) (.slice q2 m2 z2):=by
 have⟨hr,a4⟩:=YA b8;have⟨r1,r2,r3,r4,r5⟩:=zR hr;obtain⟨-,r6,-,r7⟩:=Z6 hr;obtain⟨k0,k6,-⟩:=xA r2;have a6:∀t∈tl,qW t=true:=λt ht=>aT.1 r1 t ht;have e1:=kz r6;have d2:hs.length=tl.length:=by
  unfold yp at r7;rw[bV,dE,lM]at r7;exact r7.1
 have d3:((k.toNat:Nat):Int)=k:=Oo;have KB:Hh (∀W,Bl w0 W->Cl 65 #[ai k,vt,.agg #[v0,v1,v2,v3,ai x,ai y]] W λe w'=>∃(a:OA) (n c:Nat) (rl:List TbR),e=.returned (.tuple #[.slice a n c,ai (yh k tl bs ps hs ws (x,y))])/\TBs w' w0.1.size (.slice a n c) rl/\rl.map tvB=vF k tl bs ps hs ws (x,y)/\Bl W w'):=ay λW hW=>by
  apply (qDH W k x y (h.below hW) hl hs' (hp.below hW) d0 d1).mono;rintro e w' ⟨v,rl,rfl,h1,h2,h3⟩;have⟨a,c,e0⟩:=qG h1.own;subst e0;exact⟨_,_,_,rl,rfl,h1.base hW.size,h2,h3⟩
 have KO:Hh (∀W,Bl w W->Cl 66 #[ai k,vt,vj] W λe w'=>∃(K:OA) (M z0:Nat) (O:OA) (V z1:Nat) (q2:OA) (m2 z2:Nat),e=.returned (.agg #[.slice K M z0,.slice O V z1,.slice q2 m2 z2])/\(∀(r:Nat) (y0 y1 y2:Value),(∃cur,w'.1[r]?=some (.cells cur 93 (0,0)))->w0.1.size<=r->JtE w0 tl k.toNat (((sC w' r 0 y0).setCell (az r 1) y1).setCell (az r 2) y2) (.slice K M z0) (.slice O V z1) (.slice q2 m2 z2))/\Bl W w'):=ay λW hW=>by
  have h1:=qAL W k.toNat (bt hw hW) h r4 a6 Oo (hj.below hW) ((row_one a4 (Vz _ Oo)).few);rw[d3]at h1;apply h1.mono;rintro e w' ⟨K,M,z0,O,V,z1,q2,m2,z2,rfl,hE,hb⟩;exact⟨K,M,z0,O,V,z1,q2,m2,z2,rfl,λr y0 y1 y2 hX hr=>⟨[upR k.toNat],[-1],_,_,qHb a4 Oo Oo a6 b7,by rw[vB,dT],hE.set hX hr _ _ _⟩,hb⟩
 have KT:Hh (¬yh k tl bs ps hs ws (x,y)<0->∀W vb rl,Bl w0 W->TBs W w0.1.size vb rl->rl.map tvB=vF k tl bs ps hs ws (x,y)->Cl 67 #[vb,vt,.agg #[v0,v1,v2,v3,ai x,ai y]] W λe w'=>∃(K:OA) (M z0:Nat) (O:OA) (V z1:Nat) (q2:OA) (m2 z2:Nat),e=.returned (.agg #[.slice K M z0,.slice O V z1,.slice q2 m2 z2])/\(∀(r:Nat) (y0 y1 y2:Value),(∃cur,w'.1[r]?=some (.cells cur 93 (0,0)))->w0.1.size<=r->JtE w0 tl k.toNat (((sC w' r 0 y0).setCell (az r 1) y1).setCell (az r 2) y2) (.slice K M z0) (.slice O V z1) (.slice q2 m2 z2))/\FrB W vb w'):=ay λhn W vb rl hW hT he=>by
  have⟨y1,y2,y3,y4,y5⟩:=qJV b8 hn;rw[y4]at he;have e2:rl.length=bs.length:=by have:=congrArg List.length he;rw[lM,lM]at this;exact this
  obtain⟨a0,k0,e0,-⟩:=hp.b;obtain⟨a3,k3,e3,-⟩:=hp.d;have b1:∀g,vb.ownBlock=some g->w0.1.size<=g:=λg hg=>(hT.own.lt g hg).1;apply (ZJ W x y _ _ hW h r4 a6 ⟨a0,k0,e0⟩ ⟨a3,k3,e3⟩ (λW' hF=>hp.p.fr hW b1 hF) (λW' hF=>hp.h.fr hW b1 hF) Oo Oo hT Oo).mono;rintro e w' ⟨K,M,z0,O,V,z1,q2,m2,z2,rfl,hE⟩;refine⟨K,M,z0,O,V,z1,q2,m2,z2,rfl,λr u0 u1 u2 hX hr=>⟨bs,ps,ZD _ _,orT bs.length hs,qFo y1 y2 a4 b7,by rw[vB];exact d2,?_⟩,hE.fr⟩;have:=hE.set hX hr u0 u1 u2;rw[he,e2]at this;exact this
 obtain⟨a0,c0,rfl,-⟩:=hp.b;obtain⟨a1,c1,rfl,-⟩:=hp.p;obtain⟨a2,c2,rfl,-⟩:=hp.h;obtain⟨a3,c3,rfl,-⟩:=hp.d;obtain⟨aj,cj,rfl⟩:=hj.sl;obtain⟨e8,ct,rfl,-⟩:=h;change Hh _ at hw;clear hp d0 hs' d1 hj hr a4 r1 r2 r3 r4 r5 r6 r7 a6 e1 d2 b8 b7 d3 k0 k6 hl;generalize yh k tl bs ps hs ws (x,y)=GV,vF k tl bs ps hs ws (x,y)=GT,(qO tl (upR k.toNat)).length=nj,tl.length=nt,bs.length=nb,ps.length=np,hs.length=nh,ws.length=nw at *;have⟨W1,a5⟩:=Ex ((aJ w #[.slice a0 nb c0,.slice a1 np c1,.slice a2 nh c2,.slice a3 nw c3,ai x,ai y] 38).alloc (.cells #[sn,sn,sn] 93));have b9:Hh (Bl w W1):=ay (by rw[a5];exact x8 (x8 eB _) _);have c7:Hh (PX 38 W1 w.1.size (.slice a0 nb c0) (.slice a1 np c1) (.slice a2 nh c2) (.slice a3 nw c3) x y):=ay (by rw[a5];exact(PX.made _ _ _ _ _ _ _ _).below (x8 eB _));have d4:Hh (Bx3 93 W1 (w.1.size+1) sn sn sn):=ay (by
  have h1:=Bx3.made 93 (aJ w #[.slice a0 nb c0,.slice a1 np c1,.slice a2 nh c2,.slice a3 nw c3,ai x,ai y] 38) sn sn sn;rw[a5];rw[aM]at h1;exact h1)
 have HR:Hh (w0.1.size<=w.1.size+1):=ay (O1 hw.o.size);have⟨s0,s1,s2,s3,s4,s5⟩:=c7.o.six;have d5:=ay (KB _ (bt hw b9));clear KB;go_enter func50,ntmps50;go_upto_region 1 with fail;rw[<-a5];clear a5;go_upto_region 2 with (go_at_call 65;apply d5.o.mono;rintro e w3 ⟨ab,e9,cb,rl,rfl,d6,d7,a7⟩);have d8:=ay (bt b9 a7);have a8:=ay (d4.o.below a7);have e4:=ay (c7.o.below a7);change Hh _ at d6 d7;clear s0 s1 s2 s3 s4 s5 d5 d4 c7 b9 a7;by_cases hn:GV<0
 .have e6:=ay (KO _ d8);clear KO KT;go_wp2_with (go_at_call 66;apply e6.o.mono;rintro e w4 ⟨K,M,z0,O,V,z1,q2,m2,z2,rfl,c8,c9⟩;have I:=a8.o.below c9;have t0:=I.c0;have t1:=I.c1;have t2:=I.c2;have f0:=I.free 0;have f1:=I.free 1;have f2:=I.free 2);refine aU (v:=.agg #[.slice K M z0,.slice O V z1,.slice q2 m2 z2]) (by simp[results,results50,go_sem,t0,t1,t2]) rfl ?_;exact⟨_,_,_,_,_,_,_,_,_,rfl,c8 _ _ _ _ I.typ HR⟩
 have e7:=ay (KT Oo _ _ _ (bt hw d8) d6 d7);have⟨s0,s1,s2,s3,s4,s5⟩:=e4.o.six;clear KO KT;go_wp2_with (go_at_call 67;apply e7.o.mono;rintro e w4 ⟨K,M,z0,O,V,z1,q2,m2,z2,rfl,c8,c9⟩;have I:Bx3 93 w4 (w.1.size+1) sn sn sn:=⟨(c9 _ a8.o.lt (λe=>own_ne d6.o.own a8.o.typ Dd e.symm)).trans a8.o.blk⟩;have t0:=I.c0;have t1:=I.c1;have t2:=I.c2;have f0:=I.free 0;have f1:=I.free 1;have f2:=I.free 2);refine aU (v:=.agg #[.slice K M z0,.slice O V z1,.slice q2 m2 z2]) (by simp[results,results50,go_sem,t0,t1,t2]) rfl ?_;exact⟨_,_,_,_,_,_,_,_,_,rfl,c8 _ _ _ _ I.typ HR⟩
end Go.Proofs.YtnpgdnaeghilhaaGreat
