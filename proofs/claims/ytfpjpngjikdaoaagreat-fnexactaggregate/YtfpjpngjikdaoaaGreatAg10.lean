import Derived.Ground.SlgmProg
import Derived.Lib.SlKeysI
import Derived.Shelf.SortM.Plain
import Derived.Shelf.SortM.SortNone
import Derived.Test.YtfpjpngjikdaoaaGreatProg
import Derived.Test.YtfpjpngjikdaoaaGreatAg09
set_option maxHeartbeats 40000000
set_option maxRecDepth 1000000
set_option linter.defProp false
open List Go.World
open List renaming length->E,getD->U
open Array renaming size->J
open Go.World renaming alloc->S,setCell->sW,cell?->eQ,ownsRow->oW,alloc_heap_new->tQ
open Go.Value renaming slice->Z,bool->oB,agg->aQ,ownBlock->wN
open Go.Obj renaming cells->eZ
open Go.Ending renaming returned->rE
open Option renaming some->Q,none->wH
open Bool renaming false->nF
open Decidable renaming decide->oD
open Go renaming World->oX,Value->oV,run_takeDeferred->tF,callsIn_of_wp_marks->tG,undef->tM
open Go.Proofs.Tryz renaming prog->wD
namespace Go.Proofs
open Go.Shelf Tryz YtfpjpngjikdaoaaGreat
def Tryz.sortA_ren:Ren:=⟨λ|5=>156|8=>166|7=>185|19=>208|20=>209|10=>225|11=>226|12=>227|13=>228|14=>229|15=>230|16=>186|17=>231|18=>232|30=>241|31=>236|32=>237|33=>242|34=>243|35=>210|40=>253|n=>n,λ|23=>24|25=>3|3=>3|32=>226|22=>24|0=>0|44=>274|46=>277|4=>4|36=>283|35=>282|41=>219|5=>5|9=>9|53=>302|57=>306|63=>315|64=>316|n=>n,λ|n=>n⟩
def Tryz.sortA:SlLaysM.n5 prog sortA_ren:=⟨Kl,⟨f156.1,Dd,tS func156⟩,⟨f185.1,Dd,tS func185⟩,tS func166,⟨f225.1,Dd,tS func225⟩,⟨f226.1,Dd,tS func226⟩,⟨f227.1,Dd,tS func227⟩,⟨f228.1,Dd,tS func228⟩,⟨f229.1,Dd,tS func229⟩,⟨f230.1,Dd,tS func230⟩,⟨f186.1,Dd,tS func186⟩,⟨f231.1,Dd,tS func231⟩,⟨f232.1,Dd,tS func232⟩,tS func208,tS func209,⟨f241.1,Dd,tS func241⟩,tS func236,tS func237,⟨f242.1,Dd,tS func242⟩,⟨f243.1,Dd,tS func243⟩,⟨f210.1,Dd,tS func210⟩,⟨f253.1,Dd,tS func253⟩,underlying0,isAgg0,sizeOf0,zeroValue0,underlying3,isAgg3,sizeOf3,zeroValue3,underlying4,isAgg4,sizeOf4,zeroValue4,underlying5,isAgg5,sizeOf5,zeroValue5,underlying9,isAgg9,sizeOf9,zeroValue9,underlying24,isAgg24,sizeOf24,zeroValue24,underlying24,isAgg24,sizeOf24,zeroValue24,underlying3,isAgg3,sizeOf3,zeroValue3,underlying226,isAgg226,sizeOf226,zeroValue226,underlying282,isAgg282,sizeOf282,zeroValue282,underlying283,isAgg283,sizeOf283,zeroValue283,underlying219,isAgg219,sizeOf219,zeroValue219,underlying274,isAgg274,sizeOf274,zeroValue274,underlying277,isAgg277,sizeOf277,zeroValue277,underlying302,isAgg302,sizeOf302,zeroValue302,underlying306,isAgg306,sizeOf306,zeroValue306,underlying315,isAgg315,sizeOf315,zeroValue315,underlying316,isAgg316,sizeOf316,zeroValue316⟩
end Go.Proofs
namespace Go.Proofs.YtfpjpngjikdaoaaGreat
open Go.Proofs.Tryz Go.RowKit Meet Go.Shelf
variable {vs:LI}{B v:Nat}{t:TbV}{W w:oX}
attribute [local go_sem] Oper.semAt_some
def Jd(a:OA)n c:
 aF 117 #[Z a n c] w (.func (.func 157) #[] #[pZ (J w.1) 0]) λw'=>w'=S w (eZ #[Z a n c] 24):=by
 go_enter func117,ntmps117;go_wp2;go_ret;exact⟨rfl,rfl⟩
def Je{bS vs}ls(hb:w.1[bS]?=Q (eZ #[vs] 24 (0,0)))(h:IS w vs ls)(hl:E ls<=1099511627776):
 Gives wD 157 #[pZ bS 0] (λx:Int=>#[ai x]) (λ_=>Below (J w.1)) (λ_ _ _=>True) (λpre x b _ _=>b=x/\E pre<E ls) ls w:=by
 intro l iJ Jx W M b8 b9 hJ c7 hY h0;show Calls _ _ #[.func (.yield l) #[] #[],pZ bS 0] W _;have hb':eQ W (az bS 0)=Q vs:=by rw[eI ((M.block _ (qZ hb)).trans hb)];rfl
 obtain⟨a,cap,rfl,hc⟩:=h;have HC:Hh (∀W',Bl w W'->∀j,j<E ls->∃b o,a=Q (az b o)/\eQ W' (az b (o+j))=Q (ai (U ls j 0))):=λW' a6 j hj=>by
  rcases hc with h0|⟨b,o,rfl,h⟩;omega;exact⟨b,o,rfl,xE a6 (h j hj)⟩
 have HT:Hh (∀j,j<E ls->ls.take (j+1)=ls.take j++[U ls j 0]):=λj hj=>qy hj;have V:Hh (ls.take (E ls)=ls):=tL;change Hh _ at hY hJ M;have a8:Hh (iJ (ls.take 0) W):=h0;clear hb hc h0;have⟨n,hn⟩:=Ex (E ls);rw[<-hn]at hl HC HT V hb' hY;have a9:Hh (∀j,j<=n->E (ls.take j)=j):=λj hj=>by rw[bZ];omega
 clear hn;go_enter func157,ntmps157;go_wp2;go_loopw [7] (λt wr=>∃(j:Nat),j<=n/\t=ai j/\Hh (∃X,iJ (ls.take j) X/\KT (J W.1) X wr/\Bl w wr)) (mZ n);exact⟨0,eC,rfl,ay ⟨W,a8,KT.refl _ _,M⟩⟩;obtain⟨j,b1,rfl,K⟩:=hrel;by_cases O:j<n
 .have i1:=aV O;have⟨X,h1,h2,h3⟩:=K.o;have⟨b,o,ea,c1⟩:=HC _ h3 j O;subst ea;have⟨fn,tmps,assign,body,hy,hR⟩:=hY _ _ (U ls j 0) X _ h1 h2 ⟨rfl,by rw[a9.o j b1];exact O⟩;have HN:Hh (∀iZ,iJ (ls.take j++[U ls j 0]) iZ->Below (J w.1) wr iZ->∃X,iJ (ls.take (j+1)) X/\KT (J W.1) X iZ/\Bl w iZ):=λiZ g1 g2=>⟨iZ,by rw[HT.o j O];exact g1,KT.refl _ _,h3.trans g2⟩;have HR:=ay hR;clear hR h1 h2 h3 K HC hY;generalize U ls j 0=x at *;refine(oF (n:=0)).1 ?_;gi_wp2
  refine⟨rfl,?_⟩;apply HR.o.mono;rintro e w9 (⟨rfl,a3,a4⟩|⟨rfl,a5,-⟩)
  .have b7:=ay (HN _ a3 a4);clear a3 a4 hy HR HN;gi_wp2
   go_wp2;go_roundw;exact⟨j+1,Oo,Gg,b7⟩;exact Im
  clear hy HR HN;gi_wp2
  go_wp2_with fail;refine aU (nK rfl _ _ _) rfl ?_;exact⟨⟨_,rfl⟩,.inr a5⟩
 obtain rfl:j=n:=Oo;have i1:=aY j;have HF:=ay (by
  have⟨X,h1,h2,h3⟩:=K.o;rw[V.o]at h1;exact hJ _ _ _ h1 h2)
 clear K HC hY;go_wp2;go_end0
 exact⟨⟨_,rfl⟩,.inl HF⟩
def Gives.later{α β P gf lb I M O}{K:List α->α->β->oX->WP}{xs w'}(h:Gives P gf lb I M O K xs w)(hb:Bl w w'):Gives P gf lb I M O K xs w':=
 λl iJ V W hW h1 h2=>h l iJ V W (hb.trans (hW.mono hb.size)) h1 (bM hb.size h2)
def VI w{gf:Nat}{lb}{ls:LI}(hl:E ls<=1048576)(eg:∀args W,(callFunc gf args).run wD W=.ok (.enter gf args) W)
 (a6:Gives wD gf lb (λx:Int=>#[ai x]) (λ_=>Below (J w.1)) (λ_ _ _=>True) (λpre x b _ _=>b=x/\E pre<E ls) ls w):
 Cl 184 #[sn,.func (.func gf) #[] lb] w λe w'=>∃v,e=rE v/\oW w' (J w.1) 3 1 v (E ls) (ls.map ai)/\Bl w w':=by
 have⟨V,M⟩:=Ex (S w (eZ #[sn] 24));have a7:Bl w V:=by rw[M];exact qC eB _
 have b7:V.1[J w.1]?=Q (eZ #[sn] 24 (0,0)):=by rw[M];exact tQ w _
 have hs1:V.1.size=J w.1+1:=by rw[M];simp
 refine(nW (n:=0)).1 (tG func184 rfl trivial ?_ rfl);simp only[ntmps184,size_toArray,cQ,length_nil,Nat.reduceAdd,Nat.reduceSub,pI,pH,push_toArray,append_toArray,nil_append,cons_append];refine(oF).2 ?_;have⟨i0,hi,b8,b9,c7⟩:=aX Tryz.infoInt;go_wp2_with fail;rw[<-M];clear M;refine(oF (n:=0)).1 ?_;have d7:=ay hs1;have d8:J w.1<V.1.size:=Oo;clear hs1;obtain⟨II,a3⟩:∃II:LI->WP,II=λpre W=>(∃v,Boxed W (J w.1) 24 v/\oW W (J w.1) 3 1 v (E pre) (pre.map ai))/\Bl w W:=⟨_,rfl⟩;have a4:∀s X Y,II s X->KT V.1.size X Y->II s Y:=λs X Y hX hk=>by
  rw[a3]at hX |-;have⟨⟨v,hv,ho⟩,hb⟩:=hX;exact⟨⟨v,(hk.cel _ _ _ _ hv Dd Dd).trans hv,qD ho λg hg=>by
   have⟨cur,hc⟩:=qK ho hg;exact hk.cel g _ _ _ hc Dd Dd⟩,hb.trans (hk.O.mono Oo)⟩
 refine QB rfl eg (a6.later a7) (λ_=>rfl)
  (λh1 h2=>Below.trans h1 h2) (λl W o o' h1 h2 h3=>(KT.put _ Oo h2 h3).O) (λ_ _ _=>trivial)
  _ (λ_ _=>False) a4 (λ_ _ _ h _=>h) (by rw[a3];exact⟨⟨_,b7,eK⟩,a7⟩)
  (λl pre x b a' W=>II pre W/\E pre<E ls/\a'={ tmps:=#[sn,.func (.func gf) #[] lb,pZ (J w.1) 0,tM,sn,ai x,.func (.func gf) #[] lb,ai x,tM,tM,tM,tM,tM],defers:=[] })
  (λl pre x b a' W o o' h1 h2 h3 h4=>⟨a4 _ _ _ h1.1 (KT.put _ h2 h3 h4),h1.2⟩)
  ?assign ?body ?done ?stop
 case assign=>
  rintro l pre x b X Y K c8 hI hk ⟨rfl,a8⟩ ⟨rr,c9⟩ hK;gi_wp2
  exact hK _ _ (KeepsFrom.refl _ _) eB ⟨a4 _ _ _ hI hk,a8,rfl⟩
 case body=>
  rintro l pre x b a' W c8 ⟨rr,c9⟩ ⟨hI,a8,rfl⟩;rw[a3]at hI |-;have⟨⟨v,hv,I⟩,hB⟩:=hI;have d1:=hv.cell;gi_wp2_with (first
   |(gi_at_builtin;refine wpListIn_append_own _ rfl _ _ 24 rfl _ 3 _ _ 1 8 underlying24 hi b8 b9 c7 rfl Dd _ _ _ rfl (I.alloc _) (az _ 0) 1 1 _ rfl rfl (qH _ _ _) Hu Um Oo (by have:=hB.size;simp;omega) ?_;intro v' w1 O a5 d2;obtain⟨g',d6,rfl⟩:=ownsRow_succ O;have⟨a9,d3,d4,d5,b1⟩:=hv.appended Dd I hB.size eA O a5;have hc1:=a9.cell;have d9:=a9.frozen)
   |gi_in)
  exact⟨d5.from _,b1,⟨⟨_,d3,by rw[mA,lA];exact d4⟩,hB.trans b1⟩⟩
 case done=>
  intro D W hD hI hK;rw[a3]at hI;have⟨⟨v,hv,I⟩,hB⟩:=hI;have d1:=hv.cell;simp only[Exit.inBlock,Exit.then];go_wp2_with fail;have hp:=KT.put (.deferred wH) Oo hK rfl;refine⟨Ss,.inl ⟨D,_,rfl,tF hK,v,by simp[results,results184,go_sem],v,rfl,qD I λg hg=>?_,hB.trans (hp.O.mono Oo)⟩⟩;have⟨cur,hc⟩:=qK I hg;exact hp.cel g _ _ _ hc Dd Dd
 case stop=>
  rintro D c W _ h _;exact h.elim
def UF w{gf:Nat}{lb}{ls:LI}(hl:E ls<=1048576)(K:∀args W,(callFunc gf args).run wD W=.ok (.enter gf args) W)
 (I:Gives wD gf lb (λx:Int=>#[ai x]) (λ_=>Below (J w.1)) (λ_ _ _=>True) (λpre x b _ _=>b=x/\E pre<E ls) ls w):
 Cl 155 #[.func (.func gf) #[] lb] w λe w'=>∃v,e=rE v/\oW w' (J w.1) 3 1 v (E ls) (ls.map ai)/\Bl w w':=by
 have M:=ay (VI w hl K I);clear I;go_enter func155,ntmps155;go_wp2_with (go_at_call 184;apply M.o.mono;rintro e w' ⟨v,rfl,ho,hb⟩);go_ret;exact⟨v,rfl,ho,hb⟩
def Jf w0 w v{ls:LI}(ho:oW w (J w0.1) 3 1 v (E ls) (ls.map ai))(hb:Bl w0 w)(hl:E ls<=1048576):
 aF 156 #[v] w (.tuple #[]) λw'=>oW w' (J w0.1) 3 1 v (E ls) ((ls.mergeSort λx y=>oD (x<=y)).map ai)/\Bl w0 w':=by
 rcases ho.2 with ⟨rfl,O⟩|⟨M,cap,cur,rfl,I,K,r1,r2,V,r4⟩;have:=eq_nil_of_length_eq_zero O;subst this;apply (AnyM.slices_Sort_int_none Tryz.sortA wH 0 w).mono;rintro e w' ⟨rfl,rfl⟩;exact⟨rfl,by simpa using ho,hb⟩;apply (AnyM.slices_Sort_int Tryz.sortA M 0 cap _ w (holds_of_block_i K (by simpa using r4)) (qZ K) Oo).mono;rintro e w' ⟨rfl,nn,os,rfl⟩;exact⟨rfl,ownsRow_sorted_i Ss I K r1 r2 V,hb.grown (grownBy_sorted_i _) hb.size (λj hj=>by cases hj;exact I)⟩
def Jg(gf:Nat){lb}(ls:LI)(hl:E ls<=1048576)(O:∀args W,(callFunc gf args).run wD W=.ok (.enter gf args) W)
 (I:Gives wD gf lb (λx:Int=>#[ai x]) (λ_=>Below (J w.1)) (λ_ _ _=>True) (λpre x b _ _=>b=x/\E pre<E ls) ls w):
 Cl 116 #[.func (.func gf) #[] lb] w λe w'=>∃v,e=rE v/\oW w' (J w.1) 3 1 v (E ls) ((ls.mergeSort λx y=>oD (x<=y)).map ai)/\Bl w w':=by
 have V:=ay (UF w hl O I);clear I;go_enter func116,ntmps116;go_wp2_with (first|go_at_call 155;apply V.o.mono;rintro e w' ⟨v,rfl,ho,hb⟩|go_at_call 156;apply ((λW v h1 h2=>Jf w W v h1 h2 hl) _ _ ho hb).mono;rintro e w'' ⟨rfl,K,M⟩);go_ret;exact⟨v,rfl,K,M⟩
def MX(W:oX)(k:Nat)(m:NB):Prop:=W.1[k]?=Q (eZ (YR m) 172 (0,0))
section
variable {W W':oX} {k:Nat} {m:NB}
def MX.zz(h:MX W k m)(hb:Bl W W'):MX W' k m:=(hb.block _ (qZ h)).trans h
def MX.cell(h:MX W k m)(hv:v<6):eQ W (az k v)=Q (oB (m v)):=by rw[eI h];exact qGM m hv
def MX.L(h:MX W k m)j:W.frozen? (az k j)=false:=by unfold World.frozen?;rw[show W.1[k]?=_ from h];simp
def MX.set(h:MX W k m)(hv:v<6):MX (sW W (az k v) (oB true)) k (λi=>m i||oD (i=v)):=by
 unfold MX;rw[eN h];obtain rfl|rfl|rfl|rfl|rfl|rfl:v=0\/v=1\/v=2\/v=3\/v=4\/v=5:=Oo;all_goals simp[YR]
def MX.V{K}(h:MX W k m)(I:∀i,i<6->K i=m i):MX W k K:=by
 have:YR K=YR m:=by unfold YR;rw[I 0 Oo,I 1 Oo,I 2 Oo,I 3 Oo,I 4 Oo,I 5 Oo]
 unfold MX;rw[this];exact h
end
def qGF{o:LI}{vr:LI}(hv:vr.Pairwise (·< ·)):oD (o.mergeSort (λx y=>oD (x<=y))=vr)↔vr.Perm o:=by
 rw[dE];constructor;intro h;rw[<-h];exact mergeSort_perm _ _;intro h;have I:vr.mergeSort (λx y=>oD (x<=y))=vr:=mergeSort_of_pairwise (hv.imp λ{a b} h=>fD Oo);rw[<-I];exact mergeSort_of_perm_i h.symm
def qE2 tl(o:LI):oD (o.mergeSort (λx y=>oD (x<=y))=vrJ tl)=jd tl o:=by
 rw[pL,qGF (show(vrJ tl).Pairwise (·< ·) from qAu _ _),xp]
def VK w{vt vo tl}o(h:ITs w vt tl)(ho:IS w vo o)(hl:E tl<=1000)(d2:E o<=1048576)(d3:∀t∈tl,qW t):
 aG 85 #[vt,vo] w (oB (jd tl o)):=by
 obtain⟨f7,ct,rfl,hc⟩:=h;have a4:=ay λj hj=>by
  have h1:=d3 (U tl j qA) (by rw[gD,gE hj];exact gM _);exact(qL h1).1
 have HC:Hh (∀W,Bl w W->∀j,j<E tl->∃b oo,f7=Q (az b oo)/\TabAt W b (oo+j*3) (U tl j qA)):=ay λW hW j hj=>by
  rcases hc with h0|⟨b,oo,rfl,h⟩;omega;exact⟨b,oo,rfl,(h j hj).zz hW⟩
 have HH:Hh (∀j,j<E tl->∀i,qp (tl.take (j+1)) i=(qp (tl.take j) i||oD ((i:Int)∈(U tl j qA).e))):=ay λj hj i=>qE1 hj i;have a6:Hh (qp (tl.take (E tl))=qp tl):=ay (by rw[tL]);have f8:Hh (∀i,qp (tl.take 0) i=nF):=ay λi=>rfl;have HO:=ay ho;obtain⟨ao,co,rfl,-⟩:=ho;have KV:Hh (∀W,Bl w W->Cl 116 #[.func (.func 157) #[] #[pZ (J W.1) 0]] (aJ W #[Z ao (E o) co] 24) λe w'=>∃v,e=rE v/\oW w' (J (aJ W #[Z ao (E o) co] 24).1) 3 1 v (E o) ((o.mergeSort λx y=>oD (x<=y)).map ai)/\Below (J (S W (eZ #[Z ao (E o) co] 24)).1) (S W (eZ #[Z ao (E o) co] 24)) w'):=ay λW hW=>
  Jg 157 o d2 (enters_of func157 Kl rfl) (Je o (tQ W _) ((HO.o.zz hW).zz (qC (bJ _ _) _)) Oo)
 have KQ:Hh (∀W v1 v2,IS W v1 (o.mergeSort λx y=>oD (x<=y))->IS W v2 (vrJ tl)->Cl 115 #[v1,v2] W λe w'=>e=rE (oB (jd tl o))/\∃q,w'=W.drewN q):=ay λW v1 v2 h1 h2=>by
  have:=Zo W h1 h2 (by rw[length_mergeSort];omega) (bM (XV tl) Dd);rwa[qE2]at this
 obtain⟨n,hn⟩:=Ex (E tl);rw[<-hn]at hl HC a4 HH a6 |-;clear hn hc d3 HO;obtain⟨no,a7⟩:=Ex (E o);rw[<-a7]at KV d2 |-;change Hh _ at a7;obtain⟨d4,a5⟩:=Ex (jd tl o);rw[<-a5]at KQ |-;clear a5;obtain⟨W1,a8⟩:=Ex (S w (eZ #[oB nF,oB nF,oB nF,oB nF,oB nF,oB nF] 172));have d5:Hh (Bl w W1/\MX W1 (J w.1) (qp (tl.take 0))):=ay (by rw[a8];exact⟨qC (bJ _ _) _,tQ w _⟩);go_enter func85,ntmps85;go_wp2_with fail;rw[<-a8];clear a8;go_loopw [12] (λt wr=>∃(j:Nat),j<=n/\t=ai j/\Hh (Bl w wr/\MX wr (J w.1) (qp (tl.take j)))) (mZ n);exact⟨0,nZ _,rfl,d5⟩;clear d5 f8;obtain⟨j,h7,rfl,M⟩:=hrel;by_cases a9:j<n
 .have i1:(j:Int)<n:=Oo;obtain⟨b,oo,ea,v0,v1,v2,d6,d7,d8,hI⟩:=HC w (bJ _ _) j a9;subst ea;have c0:=xE M.1 d6;have c1:=xE M.1 d7;have c2:=xE M.1 d8;clear d6 d7 d8;have O:=a4 j a9;have g4:=ay (HH j a9);obtain⟨W3,V⟩:=Ex (S wr (eZ #[v0,v1,v2] 58));have b7:Bl wr W3:=by rw[V];exact(bJ _ _).alloc (nR _) _
  have b8:Hh (TX W3 (J wr.1) v0 v1 v2):=ay (by rw[V];exact TX.zw _ _ _ _);have d9:=ay (bt M.1 b7);have b9:=ay (M.2.zz b7);have h8:=ay (qZ M.2);have g5:=xz O;have e3:Hh (∀i,i<E (U tl j qA).e->∃v:Nat,U (U tl j qA).e i 0=(v:Int)/\v<6):=ay λi hi=>by
   have:=Q8 O i hi;exact⟨(U (U tl j qA).e i 0).toNat,Oo,Oo⟩
  obtain⟨a0,k0,e0,-⟩:=hI.e;obtain⟨a1,k1,e1,-⟩:=hI.x;obtain⟨a2,k2,e2,-⟩:=hI.k;subst e0 e1 e2;have e5:Hh (∀i,i<E (U tl j qA).e->(U tl j qA).e.take (i+1)=(U tl j qA).e.take i++[U (U tl j qA).e i 0]):=ay λi hi=>qy hi;have e6:Hh ((U tl j qA).e.take (E (U tl j qA).e)=(U tl j qA).e):=ay (tL);generalize U tl j qA=tb at *;have c7:Hh (∀W,Bl w W->∀i,i<E tb.e->∃b o,a0=Q (az b o)/\eQ W (az b (o+i))=Q (ai (U tb.e i 0))):=ay λW hW i hi=>by
   obtain⟨a,c,e,hc⟩:=hI.e.zz hW;cases e
   rcases hc with h0|⟨b,o,rfl,h⟩;omega;exact⟨b,o,rfl,h i hi⟩
  generalize E tb.x=nr,E tb.k=n2 at *;clear hI O b7 HC a4 M;obtain⟨nv,e7⟩:=Ex (E tb.e);rw[<-e7]at g5 e3 e5 e6 c7 V b8 c0;clear e7;have d0:=b8.o.c0;go_upto_region 5 with fail;rw[<-V];clear V c0 c1 c2;have h9:=qZ b9;go_wp2;go_loopw [19] (λt wr2=>∃(i:Nat),i<=nv/\t=ai i/\Hh (Bl w wr2/\MX wr2 (J w.1) (λq=>qp (tl.take j) q||oD ((q:Int)∈tb.e.take i)))) (mZ nv);exact⟨0,nZ _,rfl,ay ⟨d9,b9.o.V λi _=>Ss⟩⟩;obtain⟨i,i0,rfl,I⟩:=hrel;by_cases a3:i<nv
  .have i2:(i:Int)<nv:=Oo;obtain⟨b2,o2,g6,e1⟩:=c7 _ I.1 i a3;subst g6;obtain⟨v,ev,e8⟩:=e3 i a3;have c8:=ay (e5 i a3);rw[ev]at c8 e1;have m1:((v:Nat):Int)<6:=Oo;have m0:¬((v:Nat):Int)<0:=Oo;have m2:(0:Int)<=v:=Oo;have q1:=I.2.cell e8;have q2:=I.2.L v;have HN:Hh (∀W:oX,W=(wr:oX)->Bl w (sC W (J w.1) v (oB true))/\MX (sW W (az (J w.1) v) (oB true)) (J w.1) (λq=>qp (tl.take j) q||oD ((q:Int)∈tb.e.take (i+1)))):=ay λW hW=>by
    subst hW;refine⟨I.o.1.setCell (by show _<=J w.1;omega) _,(I.o.2.set e8).V λq _=>?_⟩;rw[c8.o];simp only[mem_append,mem_singleton,Bool.decide_or,Bool.or_assoc];congr 2;simp only[oK];omega
   clear I c8 ev;go_wp2;go_roundw;exact⟨i+1,Oo,Gg,ay (HN _ rfl)⟩;exact Im
  obtain rfl:i=nv:=Oo;have i2:=aY i;have HN:Hh (Bl w wr/\MX wr (J w.1) (qp (tl.take (j+1)))):=ay ⟨I.1,I.2.V λq _=>by rw[e6.o];exact g4 q⟩;clear I d9 b9 b8 c7;go_wp2;go_roundw;exact⟨j+1,Oo,Gg,HN⟩;exact Im
 obtain rfl:j=n:=Oo;have i1:=aY j;rw[a6.o]at M;have g7:=ay M.2;have HB:=ay M.1;clear M HH a6 a4 HC;have c9:Hh (∀W,Bl wr W->eQ W (az (J w.1) 0)=Q (oB (qp tl 0))/\eQ W (az (J w.1) 1)=Q (oB (qp tl 1))/\eQ W (az (J w.1) 2)=Q (oB (qp tl 2))/\eQ W (az (J w.1) 3)=Q (oB (qp tl 3))/\eQ W (az (J w.1) 4)=Q (oB (qp tl 4))/\eQ W (az (J w.1) 5)=Q (oB (qp tl 5))):=ay λW hW=>by
  have h:=g7.o.zz hW;exact⟨h.cell Oo,h.cell Oo,h.cell Oo,h.cell Oo,h.cell Oo,h.cell Oo⟩
 have g8:Hh (∀W,Cl 118 #[aQ #[oB (qp tl 0),oB (qp tl 1),oB (qp tl 2),oB (qp tl 3),oB (qp tl 4),oB (qp tl 5)]] W λe w'=>∃v,e=rE v/\oW w' (J W.1) 3 1 v (E (vrJ tl)) ((vrJ tl).map ai)/\Bl W w'):=ay λW=>qDp W;have d1:Bl wr wr.drew:=(bJ _ _).drew;have g9:=ay (KV _ (bt HB d1));obtain⟨s0,s1,s2,s3,s4,s5⟩:=c9 _ d1;obtain⟨t0,t1,t2,t3,t4,t5⟩:=c9 (S wr (eZ #[Z ao no co] 24)) (qC (bJ _ _) _);clear KV;generalize qp tl 0=m0 at *;generalize qp tl 1=m1 at *;generalize qp tl 2=m2 at *;generalize qp tl 3=m3 at *;generalize qp tl 4=m4 at *;generalize qp tl 5=m5 at *;go_upto_region 11 with fail;go_region_law (first
  |(go_simp;go_at_call 117;apply (Jd ao no co).mono;rintro e w2 ⟨rfl,rfl⟩)
  |(go_simp;go_at_call 116;apply g9.o.mono;rintro e w3 ⟨v3,rfl,h3,h4⟩;have b3:=bt (qC d1 _) h4;obtain⟨r0,r1,r2,r3,r4,r5⟩:=c9 _ b3)
  |(go_simp;go_at_call 118;apply (g8.o w3).mono;rintro e w4 ⟨v4,rfl,h5,e9⟩;have b4:=bt b3 e9)
  |(go_simp;go_at_call 115;apply (KQ.o _ _ _ (qN (by rw[length_mergeSort,<-a7.o];exact qB h3 e9)) (qN h5)).mono;rintro e w5 ⟨rfl,q5,rfl⟩)
  |fail)
 all_goals go_wp2_with fail
 all_goals go_ret
 all_goals exact⟨rfl,below_drewN (bt HB b4) _⟩
attribute [local go_sem] Oper.semAt_some
def Qw w vt{vo tl}o(h:ITs w vt tl)(ho:IS w vo o)(hl:E tl<=1048576)(m0:E o<=1048576)(hs:∀t∈tl,TvS t):
 Cl 65 #[vt,vo] w λe w'=>∃v us,e=rE (.tuple #[v,ai (zK tl o)])/\RQ w' (J w.1) v us (qO tl o)/\Bl w w':=by
 have HT:=ay h;have HO:=ay ho;have KA:=ay λW hW=>QD W (h.zz hW) Oo hs;have KO:Hh (∀W,Bl w W->E tl<=8->tl.all qW->Cl 85 #[vt,vo] W λe w'=>e=rE (oB (jd tl o))/\Bl W w'):=λW hW h8 ha=>VK W o (h.zz hW) (ho.zz hW) Oo m0 (λt ht=>aT.1 ha t ht);have O:Hh (okJ tl o=(oD (E tl<=8)&&tl.all qW&&jd tl o)):=rfl;obtain⟨a7,ct,n8,-⟩:=h;obtain⟨ao,co,n9,-⟩:=ho;subst n8 n9;have k0:Hh (okJ tl o=nF->qO tl o=[]/\zK tl o=-1):=qHr;have⟨RJ,k3⟩:=Ex (qO tl o);have⟨VJ,k4⟩:=Ex (zK tl o);change Hh _ at k3 k4;rw[<-k3,<-k4]at k0 |-;clear hs;have⟨n,hn⟩:=Ex (E tl);rw[<-hn]at hl KA KO O |-;change Hh _ at hn;have⟨no,k8⟩:=Ex (E o);rw[<-k8]at m0 KO |-;change Hh _ at k8;rw[<-hn.o]at HT;have⟨W1,b8⟩:=Ex (S (S (S (aJ w #[Z ao no co] 24) (eZ #[] 24)) (eZ #[sZ (J w.1+1) 0 0 0] 23)) (eZ #[ai 0] 3));have d8:Bl w W1:=by rw[b8];exact qC (qC (qC (qC eB _) _) _) _
 have o3:Hh (J W1.1=J w.1+4):=ay (by rw[b8];simp);have a1:∀(W:oX) (o:Obj) (k:Nat),k=J W.1->(S W o).1[k]?=Q o:=λW o k hk=>by rw[hk];exact tQ W o
 have a2:∀(W:oX) (o o':Obj) (k:Nat),W.1[k]?=Q o->(S W o').1[k]?=Q o:=λW o o' k hk=>(eL (qZ hk)).trans hk;have e5:Hh (Boxed W1 (J w.1) 24 (Z ao no co)):=ay (by rw[b8];exact a2 _ _ _ _ (a2 _ _ _ _ (a2 _ _ _ _ (a1 _ _ _ rfl))));have e6:Hh (Boxed W1 (J w.1+2) 23 (sZ (J w.1+1) 0 0 0)):=ay (by rw[b8];exact a2 _ _ _ _ (a1 _ _ _ Ss));have k9:Hh (Boxed W1 (J w.1+3) 3 (ai 0)):=ay (by rw[b8];exact a1 _ _ _ Ss);have l0:Hh (RQ W1 (J w.1) (sZ (J w.1+1) 0 0 0) [] []):=(by
  refine⟨?_,rfl,λi hi=>by simp at hi,λi j _ hj=>by simp at hj⟩;have M:=oM (aJ w #[Z ao no co] 24) (e:=24) (size:=1) (base:=J w.1) #[] 0 Ss Dd rfl;rw[aM]at M;rw[b8];exact qB M (qC (qC eB _) _))
 clear a1 a2;refine(nW (n:=0)).1 (tG func65 rfl trivial ?_ rfl);simp only[ntmps65,size_toArray,cQ,length_nil,Nat.reduceAdd,Nat.reduceSub,pI,pH,push_toArray,append_toArray,nil_append,cons_append];refine wpIn_mono ?_ npQ.imp;refine(oF).2 ?_;go_upto_region 2 with fail;rw[<-b8];clear b8;have b9:Hh (∀W,Bl W1 W->aC W (J w.1) 0 (Z ao no co)/\aC W (J w.1+1+1) 0 (sZ (J w.1+1) 0 0 0)):=λW hW=>⟨Boxed.cell ((hW.block _ e5.o.lt).trans e5),Boxed.cell (t:=23) ((hW.block _ e6.o.lt).trans e6)⟩;have i0:Hh (∀W,Bl W1 W->okJ tl o=nF->∃v us,Ending.returned (.tuple #[sZ (J w.1+1) 0 0 0,ai (-1)])=rE (.tuple #[v,ai VJ])/\RQ W (J w.1) v us RJ/\Bl w W):=λW hW hy=>by
  have⟨e1,e2⟩:=k0 hy;rw[e1,e2];exact⟨_,[],rfl,l0.o.zz hW,bt d8 hW⟩
 have d9:=ay (KA _ d8);by_cases h8:n<=8
 .have q8:¬((8:Int)<n):=Oo;rw[fD h8,dG]at O;cases hA:tl.all qW with
  |false=>
   rw[hA]at d9 O;have l1:Hh (okJ tl o=nF):=O;clear O KO KA hA;go_wp2_with (go_at_call 84;apply d9.o.mn;intro w2 a3;have⟨k1,k2⟩:=b9 _ a3);exact⟨_,by simp[results,results65,go_sem],i0 _ a3 l1⟩
  |true=>
   rw[hA]at d9 O;rw[dG]at O;have e7:=ay ((λM W hW=>KO W (bt d8 hW) h8 M) hA);have e8:=ay hA;cases hO:jd tl o with
   |false=>
    rw[hO]at e7 O;clear KO KA hA hO e8;go_wp2_with (first|go_at_call 84;apply d9.o.mn;intro w2 a3;have⟨k1,k2⟩:=b9 _ a3|go_at_call 85;apply (e7.o _ a3).mn;intro w3 d5;have d2:=bt a3 d5;have⟨r1,r2⟩:=b9 _ d2);exact⟨_,by simp[results,results65,go_sem],i0 _ d2 O⟩
   |true=>
    rw[hO]at e7 O;clear KO KA hA k0 i0;go_upto_region 4 with (first|go_at_call 84;apply d9.o.mn;intro w2 a3;have⟨k1,k2⟩:=b9 _ a3|go_at_call 85;apply (e7.o _ a3).mono;rintro e w3 ⟨rfl,d5⟩;have d2:=bt a3 d5;have⟨r1,r2⟩:=b9 _ d2);have⟨W4,i4⟩:=Ex (S w3 (eZ #[ai 0,ai 0,ai 0,ai 0,ai 0,ai 0,ai 0] 125));have m2:Bl w3 W4:=by rw[i4];exact qC eB _
    have i5:W4.1[J w3.1]?=Q (eZ #[ai 0,ai 0,ai 0,ai 0,ai 0,ai 0,ai 0] 125 (0,0)):=by rw[i4];exact tQ _ _
    have m3:=bt d2 m2;have⟨q1,q2⟩:=b9 _ m3;have⟨Wp,e9⟩:=Ex (S (S W4 (eZ #[Z a7 n ct] 34)) (eZ #[Z ao no co] 24));go_upto_region 5 with fail;rw[<-i4];clear i4;go_wp2_with (go_at_call 86;apply (UD).mono;rintro e w5 ⟨rfl,rfl⟩);rw[<-e9];have p9:=d2.size;have p7:=o3.o;have i6:Bl W4 Wp:=by rw[e9];exact qC (qC eB _) _
    have a8:=bt m3 i6
    have m5:Wp.1[J W4.1+1]?=Q (eZ #[Z ao no co] 24 (0,0)):=by
     rw[e9];have:=tQ (aJ W4 #[Z a7 n ct] 34) (eZ #[Z ao no co] 24);rwa[aM]at this
    have hJ0:JS (J w.1) (J w.1) (J w.1+1+1) (J w.1+1+1+1) (J w3.1) (Z ao no co) (qm []) ((xj []:Nat):Int) (vG no []) (sZ (J w.1+1) 0 0 0) [] w Wp:=by
     refine⟨(i6.block _ (qZ i5)).trans i5,(a8.block _ e6.o.lt).trans e6.o,?_,(a8.block _ k9.o.lt).trans k9.o,(a8.block _ e5.o.lt).trans e5.o,bt d8 a8,⟨_,_,rfl⟩,λi hi=>by simp[vG]at hi,Oo⟩;have M:=l0.o.zz a8;refine⟨?_,rfl,λi hi=>by simp[vG]at hi,λi j _ hj=>by simp[vG]at hj⟩;exact⟨M.z.1,M.z.2.imp id λ⟨g,cap,cur,e1,e2,e3⟩=>⟨g,cap,cur,e1,by cases e1;omega,e3⟩⟩
    have p8:J w.1+4<=J Wp.1:=O1 a8.size
    have hh3:J w3.1<J Wp.1:=by have M:=qZ i5;have h2:=i6.size;omega
    have o4:no<=6:=by have M:=(xp.1 hO).length_eq;have h2:=XV tl;have h3:=k8.o;omega
    have i7:Gives wD 119 #[pZ (J W4.1) 0,pZ (J W4.1+1) 0] (λvp=>#[vp]) (λl=>KpS (jx0 (J w3.1) (J w.1+1+1) (J w.1+1+1+1)) λk=>k=l) (λl=>KpS (jx0 (J w3.1) (J w.1+1+1) (J w.1+1+1+1)) λk=>k=l) (qF0 no (zM tl o)) (zM tl o) Wp:=by
     rw[k8.o];refine VF o (by rw[e9];exact(eL Ss).trans (tQ _ _)) (by rw[<-k8.o];exact m5) (HT.o.zz (bt d8 a8)) (HO.o.zz (bt d8 a8)) (λt ht=>aT.1 e8 t ht) (YQ hO) (by rw[<-hn.o];omega) (by rw[<-k8.o];omega) hh3 Oo Oo hJ0.ty
    have l2:Hh ((∀i,qm (zM tl o) i<=10000)->RJ=vG no (zM tl o)/\VJ=(xj (zM tl o):Int)):=λM=>by rw[k3.o,k4.o,k8.o];exact qF9 O M
    have l3:Hh (∀i,i<=no->10000<qm (zM tl o) i->RJ=[]/\VJ=-1):=λi M h2=>by rw[k3.o,k4.o];exact qGA O (by rw[<-k8.o];exact M) h2
    have o5:Hh (∀q∈zM tl o,E q<=no):=λq hq=>by rw[k8.o];exact qAm q hq
    generalize zM tl o=tot at *;clear m5 e9 i5 HT HO k3 k4 O e8 d9 e7 b9 l0 a3 d2 d5 m2 q1 q2 r1 r2 k1 k2 hO e5 e6 k9 a8 i6;obtain⟨II,c7⟩:∃II:LL->WP,II=λps W=>∃vr us,JS (J w.1) (J w.1) (J w.1+1+1) (J w.1+1+1+1) (J w3.1) (Z ao no co) (qm ps) ((xj ps:Nat):Int) (vG no ps) vr us w W/\∀i,qm ps i<=10000:=⟨_,rfl⟩;obtain⟨IX,e0⟩:∃IX:Code->WP,IX=λc W=>c=.exit 0/\(∃i,i<=no/\10000<qm tot i)/\∃vr cc,JS (J w.1) (J w.1) (J w.1+1+1) (J w.1+1+1+1) (J w3.1) (Z ao no co) cc (-1) [] vr [] w W:=⟨_,rfl⟩;have f7:J w.1<=J Wp.1:=Oo;refine(oF (n:=0)).1 ?_;refine QB (α:=LI) (β:=oV) (gf:=119) (lb:=#[pZ (J W4.1) 0,pZ (J W4.1+1) 0]) rfl (enters_of func119 Kl rfl) i7 (λ_=>rfl)
     (λM h2=>KpS.trans M h2) (λl W o o' M h2 h3=>KpS.put rfl h2 h3 (by show J w.1+1+1≠l;omega)) (λM h2 h3=>(KpS.trans M h2).trans h3)
     II IX
     (λs X Y hX hk=>by rw[c7]at hX |-;have⟨vr,us,M,h2⟩:=hX;exact⟨vr,us,M.kt hk f7,h2⟩)
     (λc X Y hX hk=>by rw[e0]at hX |-;have⟨h0,M,vr,cc,h2⟩:=hX;exact⟨h0,M,vr,cc,h2.kt hk f7⟩)
     (by rw[c7];exact⟨_,_,hJ0,λi=>by show(0:Nat)<=_;omega⟩)
     (λl pre x b a' W=>∃X vr us,JS (J w.1) (J w.1) (J w.1+1+1) (J w.1+1+1+1) (J w3.1) (Z ao no co) (qm pre) ((xj pre:Nat):Int) (vG no pre) vr us w X/\(∀i,qm pre i<=10000)/\KT (J Wp.1) X W/\oW W (J X.1) 3 1 b (E x) (x.map ai)/\E x<=no/\(∃g c,b=sZ g 0 (E x) c)/\pre++[x] <+:tot/\a'={ tmps:=#[Z a7 n ct,Z ao no co,tM,pZ (J w.1) 0,sn,ai 0,pZ (J w.1+1+1) 0,pZ (J w.1+1+1+1) 0,pZ (J w3.1) 0,b,tM,sZ (J w.1+1) 0 0 0,Z a7 n ct,ai n,oB nF,oB nF,Z a7 n ct,oB true,oB nF,oB nF,oB nF,Z a7 n ct,Z ao no co,oB true,oB nF,oB nF,tM,Z a7 n ct,Z ao no co,.func (.func 119) #[] #[pZ (J W4.1) 0,pZ (J W4.1+1) 0],b,tM,tM,tM,tM,tM,tM,tM,tM,tM,tM,tM,tM,tM,tM,tM,tM,tM,tM,tM,tM,tM,tM,tM,tM,tM,tM],defers:=[] })
     (λl pre x b a' W o o' ⟨X,vr,us,M,h2,h3,h4,h5⟩ i8 h6 h7=>⟨X,vr,us,M,h2,h3.trans (KT.put (B:=J Wp.1) o' i8 h6 h7),qD h4 λg hg=>by
      have⟨cur,hc⟩:=qK h4 hg;exact(KT.put _ i8 h6 h7).cel g _ _ _ hc Dd Dd,h5⟩)
     ?assign ?body ?done ?stop
    case assign=>
     rintro l pre x b X Y K i8 hI hk ⟨ho,l4,⟨g,c,rfl⟩,c8⟩ ⟨rr,o6⟩ hK;rw[c7]at hI;have⟨vr,us,M,h2⟩:=hI;gi_wp2
     exact hK _ _ (KeepsFrom.refl _ _) (KpS.refl _ _ _) ⟨X,vr,us,M,h2,hk,ho,l4,⟨g,c,rfl⟩,c8,rfl⟩
    case body=>
     rintro l pre x b a' W i8 ⟨rr,o6⟩ ⟨X,vr,us,jX,f8,hk,i9,l4,⟨g,c,rfl⟩,c8,rfl⟩;have jW:=jX.kt hk f7;have m6:E x<7:=Oo;have o7:=(i9.lt g rfl).1;have o8:=jX.vb.lt;have j1:g≠J w.1+1+1+1:=Oo;have⟨iS,hj,m7,m8,m9⟩:=aX Tryz.infoIS;have o9:=jX.ob.lt;have f9:=jW.held m6 (qm pre (E x)+1);rw[show((qm pre (E x)+1:Nat):Int)=(qm pre (E x):Int)+1 by omega]at f9;have⟨a6,ka⟩:=f9;have q0:=f8 (E x);have ja:JS (J w.1) (J w.1) (J w.1+1+1) (J w.1+1+1+1) (J w3.1) (Z ao no co) (qm (pre++[x])) ((xj pre:Nat):Int) (vG no pre) vr us w (sC W (J w3.1) (E x) (ai ((qm pre (E x):Int)+1))):=⟨a6.hb.V λi _=>by
      rw[Zq];by_cases e:i=E x;rw[fE e.symm,fE e,e];rw[fF (λh=>e h.symm),fF e];rfl,a6.rb,a6.rq,a6.vb,a6.ob,a6.O,a6.sh,a6.ap,a6.low⟩
     have a4:Hh (∀W' d3 l5,qm pre (E x)+1<=10000->JS (J w.1) (J w.1) (J w.1+1+1) (J w.1+1+1+1) (J w3.1) (Z ao no co) (qm (pre++[x])) ((xj (pre++[x]):Nat):Int) (vG no (pre++[x])) d3 l5 w W'->KpS (jx0 (J w3.1) (J w.1+1+1) (J w.1+1+1+1)) (λ_=>False) W W'->KeepsFrom (J Wp.1) W W'/\KpS (jx0 (J w3.1) (J w.1+1+1) (J w.1+1+1+1)) (λk=>k=l) W W'/\II (pre++[x]) W'):=λW' d3 l5 M h2 h3=>by
      refine⟨h3.keepsF jW.ty hh3 Oo Oo,h3.sub λ_ h=>h.elim,?_⟩;rw[c7];refine⟨d3,l5,h2,λi=>?_⟩;rw[Zq];by_cases e:E x=i;rw[fE e,<-e];exact M;rw[fF e];exact f8 i
     have a9:Hh (∀W' d3 cc,10000<qm pre (E x)+1->JS (J w.1) (J w.1) (J w.1+1+1) (J w.1+1+1+1) (J w3.1) (Z ao no co) cc (-1) [] d3 [] w W'->KpS (jx0 (J w3.1) (J w.1+1+1) (J w.1+1+1+1)) (λ_=>False) W W'->KeepsFrom (J Wp.1) W W'/\KpS (jx0 (J w3.1) (J w.1+1+1) (J w.1+1+1+1)) (λk=>k=l) W W'/\IX (.exit 0) W'):=λW' d3 cc M h2 h3=>by
      refine⟨h3.keepsF jW.ty hh3 Oo Oo,h3.sub λ_ h=>h.elim,?_⟩;rw[e0];refine⟨rfl,⟨E x,l4,?_⟩,d3,cc,h2⟩;have h4:=qF7 c8 (E x);rw[Zq,fE rfl]at h4;omega
     have e4:Hh (oW (sC W (J w3.1) (E x) (ai ((qm pre (E x):Int)+1))) (J w.1+1) 3 1 (sZ g 0 (E x) c) (E x) (x.map ai)):=(qD (qE i9 Oo) λq hq=>eG λe=>by
      have e2:q=J w3.1:=e;have:g=q:=by simpa[wN]using hq
      exact (λe=>own_ne i9 ⟨_,jW.hb⟩ Dd (by rw[e];rfl)) (this.trans e2))
     have l6:Hh (∀i,i<E (vG no pre)->∀q,(U us i tM).ownBlock=Q q->(sZ g 0 (E x) c).ownBlock≠Q q):=λi hi q hq e=>by
      have M:=((jX.rq.l i hi).lt q hq).2;have:g=q:=by simpa[wN]using e
      omega
     have q5:xj pre<=60000:=by
      have M:=qHl (λq hq=>o5 q (c8.subset (dW _ hq))) f8;have h2:no*10000<=6*10000:=Nat.mul_le_mul_right _ o4;omega
     have g4:=ay (qEr pre x);have g5:=ay (qEs no pre x);have q6:E (vG no pre)<=10000:=by rw[qF6];exact f8 no
     change Hh _ at ja ka;have c1:=jW.hb.cell m6;have f1:=jW.hb.L (E x);have n1:=yQ jW.rb jW.hb Dd;have n2:=yQ jW.vb jW.hb Dd;have n3:=yQ jW.ob jW.hb Dd;have x7:(E x:Int)<7:=Oo;clear a6 i9 o7 o8 o9 jX f8 hk c8 c7 e0 i7;generalize xj pre=vn,qm pre (E x)=cn at *;have hsz:J (sC W (J w3.1) (E x) (ai ((cn:Int)+1))).1=J W.1:=by simp[World.setCell]
     have r1:=ja.o.rb.cell;have r2:=ja.o.rb.frozen;have v1:=ja.o.vb.cell;have v2:=ja.o.vb.frozen;have o1:=ja.o.ob.cell;have q7:=jW.ob.lt;have p1:=jW.rb.cell;have p2:=jW.vb.cell;have p3:=jW.ob.cell;have p4:=jW.rb.frozen;have p5:=jW.vb.frozen;by_cases n5:10000<cn+1
     .have b1:(10000:Int)<cn+1:=Oo;have⟨jr,kr⟩:=ja.o.reset;rw[hsz]at jr kr;have⟨jv,kv⟩:=jr.vis (-1);have HX:=ay (a9 _ _ _ n5 jv ((ka.o.trans kr).trans kv));have q1:=(ja.o.rb.alloc (eZ #[] 24)).cell;have q2:=(ja.o.rb.alloc (eZ #[] 24)).frozen;have q3:=jr.vb.cell;have q4:=jr.vb.frozen;clear jr kr jv kv a4 a9 e4 l6 g4 g5 ja ka;gi_wp2
      exact HX
     have b1:¬((10000:Int)<cn+1):=Oo;have n6:=ay j1;have j4:Hh ((sZ g 0 (E x) c).ownBlock≠Q (J w.1+1+1+1)):=λe=>j1 (by simpa[wN]using e);by_cases d6:0<E x
     .have i1:(0:Int)<(E x:Int):=Oo;by_cases d0:E x=no
      .subst d0;have⟨jv,kv⟩:=ja.o.vis (vn+1);have d7:J (sW (sC W (J w3.1) (E x) (ai ((cn:Int)+1))) (az (J w.1+1+1+1) 0) (ai ((vn:Int)+1))).1=J W.1:=by simp[World.setCell]
       have j5:=ay (qD e4 λq hq=>bD (sC W (J w3.1) (E x) (ai (cn+1))) (az (J w.1+1+1+1) 0) (ai (vn+1)) _ λe=>n6 (by have:=(by simpa[wN]using hq);exact this.trans e));have t1:=jv.rb.cell;have t2:=jv.rb.frozen;have t3:=jv.ob.cell;have a5:((xj (pre++[x]):Nat):Int)=(vn:Int)+1:=by rw[g4.o,fE d6];omega
       have V:=g5.o;rw[fE rfl]at V;have g7:=ay jv;have l7:=ay (ka.o.trans kv);have g8:=ay d7;have l8:=ay a5;have g9:=ay V;clear a5 V hsz d7 jv kv;gi_wp2_with (first
        |(gi_at_builtin;refine uG rfl 23 rfl (J w.1+1) 24 iS sn 1 24 underlying23 hj m7 m8 m9 rfl Dd vr us rfl (g7.o.rq.z.alloc _) (az (J W.1) 0) 1 1 [sZ g 0 (E x) c] rfl rfl (by rw[<-g8.o];exact qH _ _ _) Hu Dd Um Oo (by rw[aM,g8.o];omega) ?_;intro g6 p6 w6 d4 b7 h9;have⟨r6,j6,k6⟩:=g7.o.push j5 l6 j4 d4 b7 h9;have u1:=r6.cell;have u2:=r6.frozen)
        |gi_in)
       exact a4.o _ _ _ Oo (by rw[l8.o,g9.o];exact j6) (l7.o.trans k6)
      have i2:¬((E x:Int)=(no:Int)):=Oo;have⟨jv,kv⟩:=ja.o.vis (vn+1);have d7:J (sW (sC W (J w3.1) (E x) (ai ((cn:Int)+1))) (az (J w.1+1+1+1) 0) (ai ((vn:Int)+1))).1=J W.1:=by simp[World.setCell]
      have j5:=ay (qD e4 λq hq=>bD (sC W (J w3.1) (E x) (ai (cn+1))) (az (J w.1+1+1+1) 0) (ai (vn+1)) _ λe=>n6 (by have:=(by simpa[wN]using hq);exact this.trans e));have t1:=jv.rb.cell;have t2:=jv.rb.frozen;have t3:=jv.ob.cell;have a5:((xj (pre++[x]):Nat):Int)=(vn:Int)+1:=by rw[g4.o,fE d6];omega
      have V:=g5.o;rw[fF d0,dU]at V;have HF:=ay (a4.o _ _ _ Oo (by rw[a5,V];exact jv) (ka.o.trans kv));clear a5 V hsz d7 jv kv a4 a9 ja ka e4;gi_wp2
      exact HF
     have i1:¬((0:Int)<(E x:Int)):=Oo;by_cases d0:E x=no
     .subst d0;have t1:=ja.o.rb.cell;have t2:=ja.o.rb.frozen;have t3:=ja.o.ob.cell;have a5:((xj (pre++[x]):Nat):Int)=(vn:Int):=by rw[g4.o,fF d6];omega
      have V:=g5.o;rw[fE rfl]at V;have g7:=ay ja.o;have g8:=ay hsz;have l8:=ay a5;have g9:=ay V;clear a5 V hsz;gi_wp2_with (first
       |(gi_at_builtin;refine uG rfl 23 rfl (J w.1+1) 24 iS sn 1 24 underlying23 hj m7 m8 m9 rfl Dd vr us rfl (g7.o.rq.z.alloc _) (az (J W.1) 0) 1 1 [sZ g 0 (E x) c] rfl rfl (by rw[<-g8.o];exact qH _ _ _) Hu Dd Um Oo (by rw[aM,g8.o];omega) ?_;intro g6 p6 w6 d4 b7 h9;have⟨r6,j6,k6⟩:=g7.o.push e4 l6 j4 d4 b7 h9;have u1:=r6.cell;have u2:=r6.frozen)
       |gi_in)
      exact a4.o _ _ _ Oo (by rw[l8.o,g9.o];exact j6) ((ay ka.o).o.trans k6)
     have i2:¬((E x:Int)=(no:Int)):=Oo;have t1:=ja.o.rb.cell;have t2:=ja.o.rb.frozen;have t3:=ja.o.ob.cell;have a5:((xj (pre++[x]):Nat):Int)=(vn:Int):=by rw[g4.o,fF d6];omega
     have V:=g5.o;rw[fF d0,dU]at V;have HF:=ay (a4.o _ _ _ Oo (by rw[a5,V];exact ja) ka.o);clear a5 V hsz a4 a9 ja ka e4;gi_wp2
     exact HF
    case done=>
     intro D W hD hI hK;rw[c7]at hI;have⟨vr,us,j,hc⟩:=hI;have⟨e1,e2⟩:=l2 hc;have HF:Hh (∃v us,Ending.returned (.tuple #[vr,ai ((xj tot:Nat):Int)])=rE (.tuple #[v,ai VJ])/\RQ (W.drew.putObj D (.deferred wH)) (J w.1) v us RJ/\Bl w (W.drew.putObj D (.deferred wH))):=(by
      have hp:=(KT.zu eB.drew eA:KT _ W _);have l9:=KT.put (X:=W.drew) (B:=J w.1) (.deferred wH) Oo hK rfl;rw[e1,e2];have j2:=(j.kt hp (O1 j.ob.lt)).kt l9 eA;exact⟨vr,us,rfl,j2.rq.zx (iF _),j2.O⟩)
     have c1:=j.rb.cell;have c2:=j.vb.cell;clear e1 e2 hc j l2 l3 c7 e0 i7;generalize xj tot=vt at *;simp only[Exit.inBlock,Exit.then];go_upto_region 15 with fail;have n7:Tryz.prog.follows .mixedOrders:=Kl;go_region_law fail
     all_goals go_wp2_with fail
     all_goals exact⟨Ss,.inl ⟨D,_,rfl,tF hK,_,by simp[results,results65,go_sem],HF⟩⟩
    case stop=>
     intro D c W hD hI hK;rw[e0]at hI;obtain⟨rfl,⟨i,M,h2⟩,vr,cc,j⟩:=hI;have⟨e1,e2⟩:=l3 i M h2;have HF:Hh (∃v us,Ending.returned (.tuple #[vr,ai (-1)])=rE (.tuple #[v,ai VJ])/\RQ (W.drew.putObj D (.deferred wH)) (J w.1) v us RJ/\Bl w (W.drew.putObj D (.deferred wH))):=(by
      rw[e1,e2];have j2:=(j.kt (KT.zu eB.drew eA:KT _ W _) (O1 j.ob.lt)).kt (KT.put (X:=W.drew) (B:=J w.1) (.deferred wH) Oo hK rfl) eA;exact⟨vr,[],rfl,j2.rq.zx (iF _),j2.O⟩)
     have c1:=j.rb.cell;have c2:=j.vb.cell;clear e1 e2 j l2 l3 c7 e0 i7;gi_wp2
     go_upto_region 15 with fail;have n7:Tryz.prog.follows .mixedOrders:=Kl;go_region_law fail
     all_goals go_wp2_with fail
     all_goals exact⟨Ss,.inl ⟨D,_,rfl,tF hK,_,by simp[results,results65,go_sem],HF⟩⟩
 have q8:(8:Int)<n:=Oo;have l1:Hh (okJ tl o=nF):=(by rw[O.o,fC h8];rfl);have⟨k1,k2⟩:=b9 _ eB;clear O KO KA;go_wp2_with fail;exact⟨_,by simp[results,results65,go_sem],i0 _ eB l1⟩
def qId{b}:E (plc (λi=>oD (U vs i 0∈b)) (E vs))=E (shr vs b):=by
 have h:=congrArg List.length (jt vs b);unfold atP at h;rw[lM]at h;exact h
def qG9{p k}:∀x∈plc p k,0<=x/\x<(k:Int):=λx I=>by
 obtain⟨i,K,-,rfl⟩:=y7.1 I;omega
def qIe(h:qW t)b:YY t.e t.x t.k (shr t.e b):=by
 have K:=(qL h).1;unfold YY;rw[bV,bV];exact⟨⟨h,qCX (Z9 (xK K)) λx I=>XM K (zu I)⟩,aT.2 λx I=>fD (zu I)⟩
def TQ.tw{v0 v1 v2 us ws rows}(h:TQ W B v0 v1 v2 us vs rows ws):TW W B v0 v1 v2 us vs rows ws:=⟨h.o0,h.rq,h.o2,h.a02,h.a0,h.a2⟩
def ZT(h:qW t):TvS t:=by
 have⟨K,O,M⟩:=qL h;have V:=xz K;have h5:E t.k=E t.x:=by
  have I:ql t.e t.x t.k:=h;unfold ql at I;rw[bV,dE]at I;exact I.2
 refine⟨Oo,⟨Oo,λj=>?_⟩,Oo⟩;rw[gD];cases e:t.x[j]? with
 |none=>exact eC
 |some r=>have:=M r (mem_of_getElem? e);show E r<=_;omega
def x8{A X}(h:Bl A X)o:Bl A (S X o):=h.alloc h.size o
def Vj w{vb vt b tl}(hb:IS w vb b)(h:ITs w vt tl)(i3:qb b)(hl:E tl<=7)(e7:∀t∈tl,qW t):
 Cl 88 #[vb,vt] w λe w'=>∃x0 x1 x2 us,e=rE (.tuple #[aQ #[x0,x1,x2],ai (bgV tl b)])/\TW w' (J w.1) x0 x1 x2 us b (bgR tl b) (zJ (E (bgR tl b)))/\Bl w w':=by
 obtain⟨iT,hj,l3,l4,l5⟩:=aX Tryz.infoTb;have n5:Tryz.prog.follows .mixedOrders:=Kl;have l6:=xz i3;have c8:∀W:oX,Bl W W.drew:=λW=>(bJ _ _).drew;obtain⟨W1,c9⟩:=Ex (S w (eZ #[sn,sn,sn] 58));have d1:Hh (Bl w W1):=ay (by rw[c9];exact(bJ _ _).alloc (nR _) _);have i4:Hh (TX W1 (J w.1) sn sn sn):=ay (by rw[c9];exact TX.zw _ _ _ _);have d2:Hh (∀W,Bl W1 W->IS W vb b):=ay λW K=>hb.zz (bt d1 K);have KJ:Hh (∀W v I,Bl W1 W->TBs W (J W1.1) v I->I.map tvB=yZ tl b->Cl 65 #[v,vb] W λe w'=>∃v us,e=rE (.tuple #[v,ai (bgV tl b)])/\RQ w' (J W.1) v us (bgR tl b)/\Bl W w'):=ay λW v I K hT he=>by
  refine Qw W v b (by rw[<-he];exact hT.its) (d2.o W K) (bM (J5 b) Oo) Oo λt ht=>?_;obtain⟨s,hs,rfl⟩:=cC.1 ht;exact ZT (qHB (e7 s (cK.1 hs).1) b)
 have i5:=ay λW v n K hv hn=>yR W _ v b n (d2 W K) hv Oo hn;obtain⟨l7,ct,rfl,hc⟩:=h;have HC:Hh (∀W,Bl W1 W->∀j,j<E tl->∃b oo,l7=Q (az b oo)/\TabAt W b (oo+j*3) (U tl j qA)):=ay λW K j hj=>by
  rcases hc with h0|⟨b,oo,rfl,h⟩;omega;exact⟨b,oo,rfl,(h j hj).zz (bt d1 K)⟩
 have e9:Hh (∀j,j<E tl->qW (U tl j qA)):=ay λj hj=>e7 _ (by rw[gD,gE hj];exact gM _);have f7:Hh (∀j,j<E tl->yZ (tl.take (j+1)) b=yZ (tl.take j) b++(if hasB b (U tl j qA) then [prT b (U tl j qA)] else [])):=ay λj hj=>qEI hj;have i6:Hh (∀j,E (yZ (tl.take j) b)<=j):=ay λj=>bM (J5 _) (by rw[bZ];omega);have i7:Hh (yZ (tl.take 0) b=[]):=ay rfl;have f8:Hh (yZ (tl.take (E tl)) b=yZ tl b):=ay (by rw[tL]);have l8:Hh (E (bgR tl b)<=10000):=ay y8.1;obtain⟨n,hn⟩:=Ex (E tl);rw[<-hn]at hl HC e9 f7 f8 |-;clear hn hc e7;obtain⟨ab,cb,rfl,-⟩:=hb;obtain⟨nb,f9⟩:=Ex (E b);have i8:=ay f9;rw[<-f9]at KJ i5 d2 l6 |-;clear f9 i3;generalize bgV tl b=BV at *;generalize hBR:bgR tl b=BR at *;clear hBR;go_enter func88,ntmps88;go_upto_region 1 with fail;rw[<-c9];clear c9;go_wp2;go_loopw [6,14] (λu t wr=>∃(j:Nat) (vp:oV),j<=n/\t=ai j/\vp=u/\Hh (∃I,Bl W1 wr/\TBs wr (J W1.1) vp I/\I.map tvB=yZ (tl.take j) b)) (λ_ t _=>n-(intOf t).toNat);exact⟨0,_,nZ _,rfl,rfl,ay ⟨[],bJ _ _,⟨oN _ _ _ _,λt ht=>by simp at ht,iO⟩,by rw[i7.o];rfl⟩⟩;obtain⟨j,vp,n7,rfl,rfl,HT⟩:=hrel;obtain⟨I,hB,hT,hE⟩:=HT.o;have HB:=ay hB;have a3:=ay hT;have HE:=ay hE;clear HT hB hT hE;by_cases g4:j<n
 .have i1:=aV g4;obtain⟨bb,oo,ea,v0,v1,v2,c0,c1,c2,hI⟩:=HC _ HB j g4;subst ea;have a5:=ay (f7 j g4);have a9:=e9 j g4;generalize U tl j qA=tb at *;have b7:=ay a9;obtain⟨W3,d3⟩:=Ex (S wr (eZ #[v0,v1,v2] 58));have g5:Bl wr W3:=by rw[d3];exact(bJ _ _).alloc (nR _) _
  have i9:Hh (TX W3 (J wr.1) v0 v1 v2):=ay (by rw[d3];exact TX.zw _ _ _ _);have d4:=ay (hI.zz g5);have g6:=ay g5;obtain⟨a0,k0,e0,-⟩:=hI.e;obtain⟨a1,k1,e1,-⟩:=hI.x;obtain⟨a2,k2,e2,-⟩:=hI.k;subst e0 e1 e2;have h6:=xz (qL a9).1;have l9:=(qL a9).2.1;have b8:=ay (by
   have:=zq _ _ _ _ b d4.o.e (d2 _ (bt HB g6)) Oo (by rw[<-i8.o];omega);rwa[qId]at this)
  have KV:Hh (∀W v,Bl W3 W->IS W v (plc (λi=>oD (U tb.e i 0∈b)) (E tb.e))->Cl 94 #[Z a0 (E tb.e) k0,v] W λe w'=>∃v,e=rE v/\oW w' (J W.1) 3 1 v (E (shr tb.e b)) ((shr tb.e b).map ai)/\Bl W w'):=ay λW v K hv=>by
   have:=xZ W _ v _ _ (d4.o.zz K).e hv (bM (xq _ _) Oo) qG9;rwa[jt]at this
  have j0:Hh (∀W v,Bl W3 W->IS W v (shr tb.e b)->Cl 125 #[aQ #[Z a0 (E tb.e) k0,Z a1 (E tb.x) k1,Z a2 (E tb.k) k2],v] W λe w'=>∃x0 x1 x2 us,e=rE (aQ #[x0,x1,x2])/\TQ w' (J W.1) x0 x1 x2 us (shr tb.e b) (prR b tb) (zJ (E (prR b tb)))/\Bl W w'):=ay λW v K hv=>by
   have hS:=ZT b7;have:=UM W v (d4.o.zz K) hv (bM (j7 _ _) hS.e) hS.e hS.x;apply this.mono;rintro e w' ⟨x0,x1,x2,us,rfl,h1,h2⟩;rw[fE (qIe b7.o b)]at h1;exact⟨x0,x1,x2,us,rfl,h1,h2⟩
  have m3:E (shr tb.e b)<=6:=bM (j7 _ _) h6;have j1:hasB b tb=oD (0<E (shr tb.e b)):=rfl;rw[j1]at a5;clear j1 hI a9 h6 l9 b7 d4 g5;obtain⟨ns,g8⟩:=Ex (E (shr tb.e b));have m4:=ay g8;rw[<-g8]at b8 KV a5 m3;clear g8;obtain⟨tv,g9⟩:=Ex (prT b tb);have m5:=ay g9;rw[<-g9]at a5;clear g9;generalize hpp:plc (λi=>oD (U tb.e i 0∈b)) (E tb.e)=PP at *;clear hpp;generalize E tb.e=l0,E tb.x=l1,E tb.k=l2 at *;go_upto_region 5 with fail;rw[<-d3];clear d3 c0 c1 c2;have d0:=i9.o.c0;by_cases j2:0<ns
  .have i2:=aV j2;rw[fD j2,fE rfl]at a5;go_upto_region 7 with (go_at_call 124;apply b8.o.mono;rintro e W4 ⟨v4,rfl,a6,a7⟩;obtain⟨a4,k4,e4⟩:=qG a6;subst e4);have d5:=ay (i9.o.zz a7);have V:=ay (bt g6 a7);have m6:=ay (by
    have h1:=a6.1;rw[lM]at h1;exact qN (by rw[show E PP=ns by omega];exact a6))
   have e3:=ay a7;clear a6 a7 b8 d0;have j3:Hh (∀W,Bl W4 W->aC W (J wr.1) 0 (Z a0 l0 k0)/\aC W (J wr.1) 1 (Z a1 l1 k1)/\aC W (J wr.1) 2 (Z a2 l2 k2)):=ay λW K=>⟨(d5.o.zz K).c0,(d5.o.zz K).c1,(d5.o.zz K).c2⟩;obtain⟨s0,s1,s2⟩:=j3 _ (c8 _);have m7:=ay (KV _ _ (bt e3 (c8 _)) (m6.o.zz (c8 _)));have hs4:=bM HB.o.size V.o.size;have n6:E I<=7:=by have h1:=congrArg List.length HE;rw[lM]at h1;have h2:=i6 j;omega
   have h3:Hh (∀W,Bl W4 W->oW W (J W1.1) 58 3 vp (E I) (I.flatMap tcs)):=ay λW K=>qB a3.o.z (bt V K);have j4:Hh (∀W v,Bl W4 W->oW W W4.drew.1.size 3 1 v ns ((shr tb.e b).map ai)->Cl 125 #[aQ #[Z a0 l0 k0,Z a1 l1 k1,Z a2 l2 k2],v] W λe w'=>∃(q0:OA) (m0 z0:Nat) (q1:OA) (m1 z1:Nat) (q2:OA) (m2 z2:Nat) (us:LV),e=rE (aQ #[Z q0 m0 z0,Z q1 m1 z1,Z q2 m2 z2])/\TWr w' (J wr.1) ⟨Z q0 m0 z0,Z q1 m1 z1,Z q2 m2 z2,us,tv.e,tv.x,tv.k⟩/\Bl W4 w'):=ay λW v K hv=>by
    apply (j0.o W v (bt e3.o K) (qN (by rw[<-m4.o];exact hv))).mono;rintro e w' ⟨x0,x1,x2,us,rfl,hT,hb'⟩;obtain⟨q0,z0,e0⟩:=qG hT.o0;obtain⟨q1,z1,e1⟩:=qG hT.rq.z;obtain⟨q2,z2,e2⟩:=qG hT.o2;subst e0 e1 e2;exact⟨_,_,_,_,_,_,_,_,_,us,rfl,by rw[m5.o];exact hT.tw.zx (bM V.o.size K.size),bt K hb'⟩
   clear KV j0 d5;go_region_law (first
    |(refine step_append_lies _ Fl _ _ _ Fl (J W1.1) 58 iT (aQ #[sn,sn,sn]) 3 72 underlying34 hj l3 l4 l5 rfl Dd vp (E I) _ Fl ((h3.o _ b1).alloc _) (az (J w6.1) 0) 1 1 [Z q0 m0 z0,Z q1 m1 z1,Z q2 m2 z2] Fl Fl (uT _ _ _ _ _) (λu hu=>by simp at hu;rcases hu with rfl|rfl|rfl <;> rfl) Dd Um Oo (by have:=b1.size;simp;omega) _ rfl ?_;intro g7 m8 w7 b9 O j5 h4)
    |(go_simp;go_at_call 94;apply m7.o.mono;rintro e w5 ⟨v5,rfl,m9,j6⟩;have k3:=bt (c8 _) j6;obtain⟨r0,r1,r2⟩:=j3 _ k3)
    |(go_simp;go_at_call 125;apply (j4.o _ _ k3 m9).mono;rintro e w6 ⟨q0,m0,z0,q1,m1,z1,q2,m2,z2,n3,rfl,k5,b1⟩)
    |fail)
   all_goals(
    have HN:Hh (∃e5,Bl W1 w7/\TBs w7 (J W1.1) (sZ g7 0 (E I+1) m8) e5/\e5.map tvB=yZ (tl.take (j+1)) b):=ay ⟨_,(x8 (bt HB (bt V b1)) _).grown O (by have:=b1.size;simp;omega) (λq hq=>((h3 _ b1).lt q hq).1),a3.o.M HB.o.size w6 ⟨Z q0 m0 z0,Z q1 m1 z1,Z q2 m2 z2,n3,tv.e,tv.x,tv.k⟩ _ w7 _ (bt V b1) k5 O b9,by rw[mA,HE.o,a5.o];rfl⟩)
   all_goals clear HB a3 HE h3 b9 O j5 h4 k5
   all_goals try simp only[Exit.inBlock,Exit.then]
   all_goals go_wp2_with fail
   all_goals go_roundw
   all_goals first
    |exact⟨j+1,_,Oo,Gg,rfl,HN⟩
    |exact Im
  obtain rfl:ns=0:=Oo;rw[show oD (0<0)=nF from rfl,fF Dd,dU]at a5;go_wp2_with (go_at_call 124;apply b8.o.mono;rintro e W4 ⟨v4,rfl,a6,a7⟩;obtain⟨a4,k4,e4⟩:=qG a6;subst e4;have V:=ay (bt g6 a7);clear a6 a7 b8 d0);go_roundw;exact⟨j+1,_,Oo,Gg,rfl,ay ⟨I,bt HB V,a3.o.zz V,by rw[a5.o];exact HE⟩⟩;exact Im
 obtain rfl:j=n:=Oo;have i1:=aY j;have k6:=ay (KJ _ _ I HB a3 (HE.o.trans f8));have HX:=ay (i4.o.zz HB);obtain⟨av,cv,ev⟩:=qG a3.o.z;subst ev;clear KJ a3 HE HC e9 f7 i6 f8 i7 i4;go_upto_region 10 with (go_at_call 65;apply k6.o.mono;rintro e w8 ⟨v8,h5,rfl,h7,d6⟩;obtain⟨a8,k8,e8⟩:=h7.sl;subst e8);have c7:=ay h7;have k7:=ay (HX.o.zz d6);have h8:=ay (bt HB d6);have n8:=h8.o.size;have k9:=d6.size;have hs1:=bM d1.o.size HB.o.size;clear h7 d6 k6 HX;have h9:=ay (i5 _ (Z a8 (E BR) k8) _ h8 ⟨_,_,rfl⟩ (O1 l8.o));obtain⟨nr,i0⟩:=Ex (E BR);have n4:=ay i0;rw[<-i0]at h9 c7 |-;clear i0;go_wp2_with (go_at_call 89;apply h9.o.mono;rintro e w9 ⟨v0,v2,rfl,d7,d8,hap,d9⟩;obtain⟨q0,z0,e0⟩:=qG d7;obtain⟨q2,z2,e2⟩:=qG d8;subst e0 e2;have M:=k7.o.zz d9;have t0:=M.c0;have t1:=M.c1;have t2:=M.c2;have f0:=M.L 0;have f1:=M.L 1;have f2:=M.L 2);have e6:Hh (∀y0 y1 y2,TW (sW (sW (sC w9 (J w.1) 0 y0) (az (J w.1) 1) y1) (az (J w.1) 2) y2) (J w.1) (Z q0 nb z0) (Z a8 nr k8) (Z q2 nr z2) h5 b BR (zJ (E BR))/\Bl w (sW (sW (sC w9 (J w.1) 0 y0) (az (J w.1) 1) y1) (az (J w.1) 2) y2)):=ay λy0 y1 y2=>by
  have hT:TQ w9 (J w.1) (Z q0 nb z0) (Z a8 nr k8) (Z q2 nr z2) h5 b BR (zJ (E BR)):=by
   refine⟨?_,(c7.o.zz d9).zx hs1,?_,hap,λi hi g h1 h2=>?_,λi hi g h1 h2=>?_⟩;rw[<-i8.o];exact qE d7 (bM hs1 k9);rw[uv,Zz,<-n4.o];exact qE d8 (bM hs1 k9);have:=((c7.o.l i hi).lt g h1).2;have:=(d7.lt g h2).1;omega;have:=((c7.o.l i hi).lt g h1).2;have:=(d8.lt g h2).1;omega
  exact⟨(((hT.set M.zy).set (qU M.zy)).set (qU (qU M.zy))).tw,(((bt (bt d1 h8) d9).setCell (nR _) _).setCell (nR _) _).setCell (nR _) _⟩
 clear k7 c7 d7 d8 M h9 d9;refine bodyPost_ret (v:=.tuple #[aQ #[Z q0 nb z0,Z a8 nr k8,Z q2 nr z2],ai BV]) (by simp[results,results88,go_sem,t0,t1,t2]) rfl ?_;exact⟨_,_,_,h5,rfl,(e6 _ _ _).1,(e6 _ _ _).2⟩
structure WoS(w W:oX)(B:Nat)(v:oV)(rl:List TbC):Prop where
 z:oW W B 58 3 v (E rl) (rl.flatMap tcc)
 el:∀r∈rl,ITc w r
def WoS.its{v rl}(h:WoS w W B v rl)(hb:Bl w W):ITs W v (rl.map TbC.t):=by
 have⟨a,cap,e,K⟩:=qEC _ (λ_=>rfl) qFs h.z;refine⟨a,cap,by rw[lM];exact e,?_⟩;rcases K with M|⟨g,O,-,K⟩;exact .inl (by rw[lM];exact M);refine .inr ⟨g,0,O,λj I=>?_⟩;rw[lM]at I;have eg:U (rl.map TbC.t) j qA=(U rl j qFs).t:=by
  rw[gD,gD,bK,gE I];rfl
 rw[eg,cU];exact⟨_,_,_,K j 0 I Oo,K j 1 I Oo,K j 2 I Oo,(h.el _ (qz I)).zz hb⟩
def WoS.push{w3 g c v rl r}(h:WoS w W B v rl)(K:ITc w r)(I:oW w3 B 58 3 (sZ g 0 (E rl+1) c) (E rl+1) (rl.flatMap tcc++[r.v0,r.v1,r.v2])):
 WoS w w3 B (sZ g 0 (E rl+1) c) (rl++[r]):=by
 refine⟨by rw[lA,lS,dM];simpa[tcc]using I,λq hq=>?_⟩;rcases cF.1 hq with hq|hq;exact h.el q hq;rw[cI.1 hq];exact K
def qGX{tl:List TbV}{j}(I:j<E tl):woJ (tl.take (j+1))=woJ (tl.take j)++(if E (U tl j qA).e=0 then [U tl j qA] else []):=by
 unfold woJ;rw[tA,gE I,cZ,gdR I];show _++filter _ [tl[j]]=_;rw[filter_cons];by_cases e:E tl[j].e=0;rw[fE e,fD e,fE rfl];rfl;rw[fF e,fC e,fF Dd];rfl
def UQ w{vt tl}(h:ITs w vt tl)(hl:E tl<=7)(d9:∀t∈tl,qW t):
 Cl 90 #[vt] w λe w'=>∃x0 x1 x2 us,e=rE (aQ #[x0,x1,x2])/\TW w' (J w.1) x0 x1 x2 us [] (yt tl) (zJ (E (yt tl)))/\Bl w w':=by
 obtain⟨iT,hj,g7,g8,h3⟩:=aX Tryz.infoTb;have h9:Tryz.prog.follows .mixedOrders:=Kl;obtain⟨M,b1⟩:=Ex (S w (eZ #[sn,sn,sn] 58));have V:Hh (Bl w M):=ay (by rw[b1];exact(bJ _ _).alloc (nR _) _);have e3:Hh (TX M (J w.1) sn sn sn):=ay (by rw[b1];exact TX.zw _ _ _ _);have KJ:Hh (∀W v rl,Bl M W->WoS w W M.1.size v rl->rl.map TbC.t=woJ tl->Cl 65 #[v,sn] W λe w'=>∃v us,e=rE (.tuple #[v,ai (zK (woJ tl) [])])/\RQ w' (J W.1) v us (yt tl)/\Bl W w'):=ay λW v rl hW hT he=>
  Qw W v _ (by rw[<-he];exact hT.its (bt V hW)) ⟨wH,0,rfl,Or.inl rfl⟩ (bM (dH _ _) Oo) Ss λt ht=>ZT (d9 t (cK.1 ht).1)
 have h4:Hh (∀W v n,(∃a c,v=Z a n c)->n<=100000->Cl 89 #[sn,v] W λe w'=>∃v0 v2,e=rE (aQ #[v0,v,v2])/\oW w' (J W.1) 3 1 v0 0 []/\oW w' (J W.1) 3 1 v2 n (replicate n (ai 1))/\Ap' v0 v2/\Bl W w'):=ay λW v n hv hn=>yR W sn v [] n ⟨wH,0,rfl,Or.inl rfl⟩ hv Ss hn;obtain⟨h5,ct,rfl,hc⟩:=h;have HC:Hh (∀j,j<E tl->∃(b oo:Nat) (v0 v1 v2:oV),h5=Q (az b oo)/\IT w v0 v1 v2 (U tl j qA).e (U tl j qA).x (U tl j qA).k/\∀W,Bl M W->eQ W (az b (oo+j*3))=Q v0/\aC W b (oo+j*3+1) v1/\aC W b (oo+j*3+2) v2):=ay λj hj=>by
  rcases hc with h0|⟨b,oo,rfl,h⟩;omega;obtain⟨v0,v1,v2,c0,c1,c2,hI⟩:=h j hj;exact⟨b,oo,v0,v1,v2,rfl,hI,λW hW=>⟨qF (bt V hW) c0,qF (bt V hW) c1,qF (bt V hW) c2⟩⟩
 have c9:Hh (∀j,j<E tl->woJ (tl.take (j+1))=woJ (tl.take j)++(if E (U tl j qA).e=0 then [U tl j qA] else [])):=ay λj hj=>qGX hj;have e4:Hh (∀j,E (woJ (tl.take j))<=j):=ay λj=>bM (dH _ _) (by rw[bZ];omega);have e5:Hh (woJ (tl.take 0)=[]):=ay rfl;have d3:Hh (woJ (tl.take (E tl))=woJ tl):=ay (by rw[tL]);have h6:Hh (E (yt tl)<=10000):=ay y8.1;obtain⟨n,hn⟩:=Ex (E tl);rw[<-hn]at hl HC c9 d3 |-;clear hn hc d9;generalize zK (woJ tl) []=BV,hBR:yt tl=BR at *;clear hBR;go_enter func90,ntmps90;go_upto_region 1 with fail;rw[<-b1];clear b1;go_wp2;go_loopw [3,10] (λu t wr=>∃(j:Nat) (vp:oV),j<=n/\t=ai j/\vp=u/\Hh (∃rl,Bl M wr/\WoS w wr M.1.size vp rl/\rl.map TbC.t=woJ (tl.take j))) (λ_ t _=>n-(intOf t).toNat);exact⟨0,_,nZ _,rfl,rfl,ay ⟨[],bJ _ _,⟨oN _ _ _ _,λt ht=>by simp at ht⟩,by rw[e5.o];rfl⟩⟩;obtain⟨j,vp,i0,rfl,rfl,HT⟩:=hrel;obtain⟨rl,hB,hT,hE⟩:=HT.o;have HB:=ay hB;have K:=ay hT;have HE:=ay hE;clear HT hB hT hE;by_cases e6:j<n
 .have i1:=aV e6;obtain⟨bb,oo,v0,v1,v2,ea,hI,e7⟩:=HC j e6;subst ea;obtain⟨c0,c1,c2⟩:=e7 _ HB;have a3:=ay (c9 j e6);generalize U tl j qA=tb at *;have HI:=ay hI;obtain⟨W3,a4⟩:=Ex (S wr (eZ #[v0,v1,v2] 58));have e9:Bl wr W3:=by rw[a4];exact(bJ _ _).alloc (nR _) _
  have a5:Hh (TX W3 (J wr.1) v0 v1 v2):=ay (by rw[a4];exact TX.zw _ _ _ _);have a6:=ay e9;obtain⟨a0,k0,e0,-⟩:=hI.e;obtain⟨a1,k1,e1,-⟩:=hI.x;obtain⟨a2,k2,e2,-⟩:=hI.k;subst e0 e1 e2;clear hI e7 e9;obtain⟨l0,hl0⟩:=Ex (E tb.e);rw[<-hl0]at a3 HI a5 a4 c0;clear hl0;go_upto_region 5 with fail;rw[<-a4];clear a4 c0 c1 c2;have d0:=a5.o.c0;have d1:=a5.o.c1;have d2:=a5.o.c2;have i4:E rl<=7:=by have h1:=congrArg List.length HE;rw[lM]at h1;have h2:=e4 j;omega
  have i5:=bM HB.o.size a6.o.size;by_cases hz:l0=0
  .rw[fE hz]at a3;subst hz;have d4:=ay (qB K.o.z a6);go_wp2_with (at_builtin;refine wpList_append_lies _ rfl _ _ 34 rfl _ 58 _ _ 3 _ underlying34 hj g7 g8 h3 rfl Dd vp _ _ rfl (d4.o.alloc _) (az _ 0) 1 1 _ rfl rfl (uT _ _ _ _ _) (λu hu=>by simp at hu;rcases hu with rfl|rfl|rfl <;> rfl) Dd Um Oo Sy _ rfl ?_;intro g9 h7 w9 a7 O f7 f8);have HN:Hh (∃rl',Bl M w9/\WoS w w9 M.1.size (sZ g9 0 (E rl+1) h7) rl'/\rl'.map TbC.t=woJ (tl.take (j+1))):=ay ⟨_,(x8 (bt HB a6) _).grown O Sy (λq hq=>(d4.o.lt q hq).1),K.o.push (r:=⟨Z a0 0 k0,Z a1 (E tb.x) k1,Z a2 (E tb.k) k2,tb⟩) HI a7,by rw[mA,HE.o,a3.o];rfl⟩;clear a7 O f7 f8 d4 K HE a3 HI d0 d1 d2 a5;go_wp2;go_roundw;exact⟨j+1,_,Oo,Gg,rfl,HN⟩;exact Im
  rw[fF hz,dU]at a3;have i2:((l0:Int) == 0)=false:=Sy;have i3:¬((l0:Int)=0):=Oo;go_wp2;go_roundw;exact⟨j+1,_,Oo,Gg,rfl,ay ⟨rl,bt HB a6,⟨qB K.o.z a6,K.o.el⟩,by rw[a3.o];exact HE⟩⟩;exact Im
 obtain rfl:j=n:=Oo;have i1:=aY j;have f9:=ay (KJ _ _ _ HB K (HE.o.trans d3));have HX:=ay (e3.o.zz HB);obtain⟨av,cv,ev⟩:=qG K.o.z;subst ev;clear KJ K HE HC c9 e4 d3 e5 e3;go_upto_region 9 with (go_at_call 65;apply f9.o.mono;rintro e w8 ⟨v8,d5,rfl,d6,b7⟩;obtain⟨a8,k8,e8⟩:=d6.sl;subst e8);have a9:=ay d6;have g4:=ay (HX.o.zz b7);have g5:=ay (bt HB b7);have i6:=g5.o.size;have g6:=b7.size;have hs1:=bM V.o.size HB.o.size;clear d6 b7 f9 HX;have d7:=ay (h4 w8 (Z a8 (E BR) k8) _ ⟨_,_,rfl⟩ (O1 h6.o));obtain⟨nr,d8⟩:=Ex (E BR);have h8:=ay d8;rw[<-d8]at d7 a9 |-;clear d8;go_wp2_with (go_at_call 89;apply d7.o.mono;rintro e w9 ⟨v0,v2,rfl,b8,b9,hap,c7⟩;obtain⟨q0,z0,e0⟩:=qG b8;obtain⟨q2,z2,e2⟩:=qG b9;subst e0 e2;have I:=g4.o.zz c7;have t0:=I.c0;have t1:=I.c1;have t2:=I.c2;have f0:=I.L 0;have f1:=I.L 1;have f2:=I.L 2);have c8:Hh (∀y0 y1 y2,TW (sW (sW (sC w9 (J w.1) 0 y0) (az (J w.1) 1) y1) (az (J w.1) 2) y2) (J w.1) (Z q0 0 z0) (Z a8 nr k8) (Z q2 nr z2) d5 [] BR (zJ (E BR))/\Bl w (sW (sW (sC w9 (J w.1) 0 y0) (az (J w.1) 1) y1) (az (J w.1) 2) y2)):=ay λy0 y1 y2=>by
  have hT:TQ w9 (J w.1) (Z q0 0 z0) (Z a8 nr k8) (Z q2 nr z2) d5 [] BR (zJ (E BR)):=by
   refine⟨?_,(a9.o.zz c7).zx hs1,?_,hap,λi hi g h1 h2=>?_,λi hi g h1 h2=>?_⟩;exact qE b8 (bM hs1 g6);rw[uv,Zz,<-h8.o];exact qE b9 (bM hs1 g6);have:=((a9.o.l i hi).lt g h1).2;have:=(b8.lt g h2).1;omega;have:=((a9.o.l i hi).lt g h1).2;have:=(b9.lt g h2).1;omega
  exact⟨(((hT.set I.zy).set (qU I.zy)).set (qU (qU I.zy))).tw,(((bt (bt V g5) c7).setCell (nR _) _).setCell (nR _) _).setCell (nR _) _⟩
 clear g4 a9 b8 b9 I d7 c7;refine bodyPost_ret (v:=aQ #[Z q0 0 z0,Z a8 nr k8,Z q2 nr z2]) (by simp[results,results90,go_sem,t0,t1,t2]) rfl ?_;exact⟨_,_,_,d5,rfl,(c8 _ _ _).1,(c8 _ _ _).2⟩
